package tests

import (
	"slices"
	"strings"
	"testing"

	"loop.example/g01175/impl"
)

// passes reports whether a process sends over w.
func passes(p string) bool { return strings.Contains(offeredBySigns(p, "!#"), "w") }

// avoids reports whether a run goes on from a process without passing, behind those that are taken; known has what was found out.
func (r runsBySigns) avoids(p string, taken []string, known map[string]bool) bool {
	if slices.Contains(taken, p) {
		return true
	}
	if is, ok := known[p]; ok {
		return is
	}
	is := !passes(p) && (len(r.results[p]) == 0 || slices.ContainsFunc(r.results[p], func(q string) bool {
		return r.avoids(q, append(slices.Clone(taken), p), known)
	}))
	if len(taken) == 0 || !is {
		known[p] = is
	}
	return is
}

// runWithout returns the first run without passing from a process, nil if there is none.
func (r runsBySigns) runWithout(p string) []string {
	known := map[string]bool{}
	if !r.avoids(p, nil, known) {
		return nil
	}
	run := []string{p}
	for len(r.results[p]) > 0 {
		next := slices.IndexFunc(r.results[p], func(q string) bool { return r.avoids(q, nil, known) })
		p = r.results[p][next]
		run = append(run, p)
		if slices.Index(run, p) < len(run)-1 {
			break
		}
	}
	return run
}

// verdictBySigns returns how a process passes a test, with the run without passing.
func (r runsBySigns) verdictBySigns(start string) (int, string) {
	run := r.runWithout(start)
	switch {
	case run == nil:
		return 2, ""
	case strings.Contains(r.weakly(start, "!#"), "w"):
		return 1, strings.Join(run, " ")
	}
	return 0, strings.Join(run, " ")
}

// ways makes a process that goes silent ways, many of which come to w.
func (m *maker) ways(n int) string {
	switch {
	case n <= 2:
		return "~." + []string{"0", "b!a.0", "w!a.0", "w!b.~.0", "(w!a.0+~.0)"}[m.below(5)]
	case n >= 4 && m.below(2) == 0:
		k := 2 + m.below(n-3)
		return "(" + m.ways(k) + "+" + m.ways(n-k) + ")"
	}
	return "~." + m.ways(n-1)
}

// testedPairs has processes with tests.
func testedPairs() [][2]string {
	var out [][2]string
	tests := []string{"~.w!a.0", "a?x.w!x.0", "(a?x.w!a.0+b?x.~.w!b.0)", "(b!a.w!b.0+~.w!b.0)", "*a?x.w!x.0", "(a!b.0&b?x.w!x.0)", "w!a.0"}
	for i, p := range simpleProcesses() {
		if i%7 == 0 {
			out = append(out, [2]string{p, tests[i/7%len(tests)]})
		}
	}
	endlessOnes := []string{endless, inTurns, "(" + hidden + "&~.~.0)", "(a!a.0&*a?x.~.a!x.0)"}
	for _, names := range []string{"aw", "abw", "abcw"} {
		m := maker{state: 19 * uint64(len(names)), names: names}
		for i := range 300 {
			out = append(out, [2]string{m.soup(1+i%3, 5), m.soup(1, 6)}, [2]string{"(" + m.guarded(2+i%6) + "+~." + m.simple(3+i%9) + ")", m.guarded(3 + i%7)})
			if i%5 == 0 {
				p := endlessOnes[i/5%len(endlessOnes)]
				out = append(out, [2]string{p, m.soup(2, 9)}, [2]string{"(~." + p + "+" + m.guarded(5) + ")", m.guarded(5)})
			}
		}
	}
	m := maker{state: 41}
	for i := range 250 {
		out = append(out, [2]string{m.ways(6 + i%14), "0"}, [2]string{m.ways(3 + i%6), m.ways(2 + i%5)})
		out = append(out, [2]string{"(~." + endlessOnes[i%len(endlessOnes)] + "+" + m.ways(5+i%9) + ")", "~.0"})
	}
	for n := range 20 { // which reach more and more
		out = append(out, chainsWith(5+n, 5+n/3, "a!b.w!c.0", "(a?x.0+~.~.0)"), chainsWith(4+n/4, 5+n, "~.w!a.0", "0"))
	}
	return out
}

// chainsWith returns a process that makes n-1 silent steps first, and a test that makes m-1.
func chainsWith(n, m int, p, test string) [2]string {
	one, other := chains(n, m, p, test)
	return [2]string{one, other}
}

// TestTestsBySigns compares tests with what is found sign by sign.
func TestTestsBySigns(t *testing.T) {
	verdicts, failed, skipped, turns, goOn := map[int]int{}, 0, 0, 0, 0
	for _, c := range testedPairs() {
		both := sideBySide(c[0], c[1])
		r, ok, known := newRuns(both)
		if !known {
			skipped++
			continue
		}
		if !ok {
			checkNoTest(t, c[0], c[1])
			failed++
			continue
		}
		start, _ := impl.NormalForm(both)
		verdict, run := r.verdictBySigns(start)
		checkVerdict(t, c[0], c[1], verdict, run)
		if t.Failed() {
			t.Fatal(c)
		}
		verdicts[verdict]++
		told := strings.Fields(run)
		if len(told) > 1 && slices.Index(told, told[len(told)-1]) < len(told)-1 {
			goOn++
		}
		at := start
		for _, p := range told[min(1, len(told)):] {
			if r.results[at][0] != p {
				turns++ // not the first of the reductions
			}
			at = p
		}
	}
	if verdicts[0] < 1000 || verdicts[1] < 300 || verdicts[2] < 300 || failed < 10 || skipped > 400 || turns < 100 || goOn < 300 {
		t.Error("few of a kind, or many left aside:", verdicts, failed, skipped, turns, goOn)
	}
}

// TestLawsOfTests compares the calls with each other.
func TestLawsOfTests(t *testing.T) {
	for i, c := range testedPairs() {
		if i%2 == 0 {
			continue
		}
		both := sideBySide(c[0], c[1])
		sends, ok := impl.WeakSends(both)
		may, okMay := impl.MayPass(c[0], c[1])
		must, okMust := impl.MustPass(c[0], c[1])
		run, okRun := impl.RunWithoutPass(c[0], c[1])
		list, okList := impl.PassedTests(c[0], []string{c[1], "w!a.0", c[1]})
		if okMay != ok || okMust != ok || may != strings.Contains(sends, "w") || must && !may || okRun != (ok && !must) {
			t.Fatal(c, sends, may, must, run)
		}
		if !ok {
			continue
		}
		verdict := 0
		if may {
			verdict++
		}
		if must {
			verdict++
		}
		if _, reached := impl.ReachedFrom("(" + c[0] + "&w!a.0)"); okList != reached || okList && !slices.Equal(list, []int{verdict, 2, verdict}) {
			t.Fatal(c, verdict, list, okList)
		}
		checkRunWithout(t, run)
		// those that are congruent do the same
		normal, _ := impl.NormalForm(c[0])
		if again, _ := impl.RunWithoutPass(normal, c[1]); !slices.Equal(again, run) {
			t.Fatal(c, run, again)
		}
	}
}

// checkRunWithout checks that a run makes steps, never passes, and ends stuck or comes to one a second time.
func checkRunWithout(t *testing.T, run []string) {
	t.Helper()
	for i, p := range run {
		sends, ok := impl.SendsOf(p)
		results, okResults := impl.ReductionsOf(p)
		if strings.Contains(sends, "w") || !ok || !okResults {
			t.Fatal(run, "passes at", p)
		}
		if i+1 < len(run) && (!slices.Contains(results, run[i+1]) || slices.Index(run, p) < i) {
			t.Fatal(run, "makes no step, or comes to one that it had:", p)
		}
		if i+1 == len(run) && len(results) > 0 && slices.Index(run, p) == i {
			t.Fatal(run, "ends without being stuck")
		}
	}
}

// TestAnyArgumentsOfChapter9 calls the functions with texts of all kinds: none may panic, and a call fails as the calls of chapter 3 do.
func TestAnyArgumentsOfChapter9(t *testing.T) {
	texts := slices.Concat(noProcesses(), notSimple(), beyondLimits(), noNames(), []string{"0", "a", "w", "w!w.0", "a!b.0", "#w.w!w.0", "*a?x.0", "~.w!a.0", example, served, endless, inTurns, growing, letters25, letters26, alphabet})
	for i, p := range texts {
		_, reachesP := impl.ReachedFrom(p)
		simpleP, _ := impl.IsSimple(p)
		if _, ok := impl.WeakClasses(p); ok != reachesP {
			t.Errorf("WeakClasses(%.40q): %v", p, ok)
		}
		if !reachesP {
			checkNoWeb(t, p)
		}
		for j := i % 3; j < len(texts); j += 3 {
			q := texts[j]
			_, reachesQ := impl.ReachedFrom(q)
			if !reachesP || !reachesQ {
				checkNotCompared(t, p, q)
			} else if is, ok := impl.AreWeaklyAlike(p, q); !ok {
				t.Errorf("AreWeaklyAlike(%.40q, %.40q): %v %v", p, q, is, ok)
			}
			simpleQ, _ := impl.IsSimple(q)
			_, tested := impl.ReachedFrom("(" + p + "&" + q + ")")
			if !tested || !simpleP || !simpleQ {
				checkNoTest(t, p, q)
			} else if is, ok := impl.MayPass(p, q); !ok {
				t.Errorf("MayPass(%.40q, %.40q): %v %v", p, q, is, ok)
			}
		}
	}
}
