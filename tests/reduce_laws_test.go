package tests

import (
	"maps"
	"slices"
	"strings"
	"testing"

	"loop.example/g01175/impl"
)

// action is what a process does by itself, told without normal forms: ~, or ! or ? over a name; # is ! with a name of its own. For ? and # the name stands only for what is received or sent in what is behind.
type action struct{ kind, over, name, behind string }

// renamed is RenameFree for processes that have letters left.
func renamed(p, old, name string) string {
	q, ok := impl.RenameFree(p, old, name)
	if !ok {
		panic("not renamed: " + p)
	}
	return q
}

// freshFor returns a name that is not free in some processes.
func freshFor(list ...string) string {
	taken := ""
	for _, p := range list {
		free, _ := impl.FreeNames(p)
		taken += free
	}
	name, ok := impl.FreshName(taken)
	if !ok {
		panic("no name is left")
	}
	return name
}

// apartFrom returns the action with a name that is not free in another process.
func (a action) apartFrom(p string) action {
	if a.kind == "?" || a.kind == "#" {
		name := freshFor(p, a.behind)
		a.behind = renamed(a.behind, a.name, name)
		a.name = name
	}
	return a
}

// actionsOf follows the signs of a process one by one.
func actionsOf(p string) []action {
	parts := partsOf(p)
	switch kindOf(p) {
	case "!", "?":
		return []action{{p[1:2], p[:1], p[2:3], parts[0]}}
	case "~":
		return []action{{"~", "", "", parts[0]}}
	case "+":
		return append(actionsOf(parts[0]), actionsOf(parts[1])...)
	case "&":
		return actionsOfBoth(parts[0], parts[1])
	case "#":
		return actionsBehindOwn(p[1:2], parts[0])
	case "=":
		if p[1] == p[3] {
			return actionsOf(parts[0])
		}
	case "*":
		a := actionsOf(parts[0])[0].apartFrom(p)
		a.behind = "(" + a.behind + "&" + p + ")"
		return []action{a}
	}
	return nil
}

func actionsOfBoth(p, q string) []action {
	var out []action
	left, right := actionsOf(p), actionsOf(q)
	for _, a := range left {
		a = a.apartFrom(q)
		a.behind = "(" + a.behind + "&" + q + ")"
		out = append(out, a)
	}
	for _, a := range right {
		a = a.apartFrom(p)
		a.behind = "(" + p + "&" + a.behind + ")"
		out = append(out, a)
	}
	return append(out, append(meetingsOf(left, right), meetingsOf(right, left)...)...)
}

// meetingsOf returns the silent steps in which one sends and the other one receives.
func meetingsOf(ones, others []action) []action {
	var out []action
	for _, a := range ones {
		for _, b := range others {
			if b.kind != "?" || a.over != b.over {
				continue
			}
			switch a.kind {
			case "!":
				out = append(out, action{"~", "", "", "(" + a.behind + "&" + renamed(b.behind, b.name, a.name) + ")"})
			case "#":
				name := freshFor(a.behind, b.behind)
				out = append(out, action{"~", "", "", "#" + name + ".(" + renamed(a.behind, a.name, name) + "&" + renamed(b.behind, b.name, name) + ")"})
			}
		}
	}
	return out
}

func actionsBehindOwn(own, p string) []action {
	var out []action
	for _, a := range actionsOf(p) {
		a = a.apartFrom(own + "!" + own + ".0")
		switch {
		case a.over == own:
			continue
		case a.kind == "!" && a.name == own:
			a.kind = "#"
		default:
			a.behind = "#" + own + "." + a.behind
		}
		out = append(out, a)
	}
	return out
}

// resultsBySigns returns the normal forms behind silent actions. It fails if one has none.
func resultsBySigns(p string) ([]string, bool) {
	found := map[string]bool{}
	for _, a := range actionsOf(p) {
		if a.kind != "~" {
			continue
		}
		normal, ok := impl.NormalForm(a.behind)
		if !ok {
			return nil, false
		}
		found[normal] = true
	}
	return slices.Sorted(maps.Keys(found)), true
}

// offeredBySigns returns the names over which actions of some kinds are done, in order.
func offeredBySigns(p, kinds string) string {
	found := map[string]bool{}
	for _, a := range actionsOf(p) {
		if strings.Contains(kinds, a.kind) {
			found[a.over] = true
		}
	}
	return strings.Join(slices.Sorted(maps.Keys(found)), "")
}

// simple makes a simple process of at most n signs.
func (m *maker) simple(n int) string {
	if n <= 1 {
		return "0"
	}
	switch kind := m.below(10); {
	case kind < 4 && n >= 3:
		k := 1 + m.below(n-2)
		return "(" + m.simple(k) + "&" + m.simple(n-1-k) + ")"
	case kind == 4:
		return "#" + m.name() + "." + m.simple(n-1)
	case kind == 5:
		return "[" + m.name() + "=" + m.name() + "]" + m.simple(n-1)
	case kind == 6:
		return "*" + m.name() + "?" + m.name() + "." + m.simple(n-2)
	}
	return m.guarded(n)
}

// guarded makes one that may be a part of a sum.
func (m *maker) guarded(n int) string {
	if n <= 1 {
		return "0"
	}
	switch kind := m.below(8); {
	case kind < 2 && n >= 3:
		k := 1 + m.below(n-2)
		return "(" + m.guarded(k) + "+" + m.guarded(n-1-k) + ")"
	case kind == 2:
		return "~." + m.simple(n-1)
	case kind < 5:
		return m.name() + "?" + m.name() + "." + m.simple(n-1)
	}
	return m.name() + "!" + m.name() + "." + m.simple(n-1)
}

// soup makes k processes side by side, most of which can meet others, one of so many behind a name of its own.
func (m *maker) soup(k, own int) string {
	p := "0"
	for range k {
		thread := m.guarded(2 + m.below(5))
		if m.below(6) == 0 {
			thread = "*" + m.name() + "?" + m.name() + "." + m.guarded(1+m.below(4))
		}
		p = "(" + thread + "&" + p + ")"
		if m.below(own) == 0 {
			p = "#" + m.name() + "." + p
		}
	}
	return p
}

// simpleProcesses returns all short ones, alone and beside others that they can meet, and longer ones that are made.
func simpleProcesses() []string {
	var out []string
	for p := range shortProcesses(8) {
		if simple, _ := impl.IsSimple(p); simple {
			out = append(out, p, "(b?a.a!b.0&"+p+")", "#a.(("+p+"&*a?b.~.b!a.0)&(a!b.b!a.0&b!a.0))")
		}
	}
	slices.Sort(out)
	for _, names := range []string{"ab", "abc", "axyz"} {
		m := maker{state: 13 * uint64(len(names)), names: names}
		for i := range 700 {
			out = append(out, m.simple(6+i%12), m.soup(2+i%4, 5))
		}
	}
	m := maker{state: 31, names: "abc"}
	for range 300 {
		out = append(out, "(~.#a.#b.(a!b.0&"+m.soup(2, 1)+")&#a.(b!a.0&"+m.soup(2, 1)+"))")
	}
	return out
}

// TestReductionsAreSilentSteps compares with what is found sign by sign, without normal forms.
func TestReductionsAreSilentSteps(t *testing.T) {
	several, failed := 0, 0
	for _, p := range simpleProcesses() {
		want, okWant := resultsBySigns(p)
		list, ok := impl.ReductionsOf(p)
		if !slices.Equal(list, want) || ok != okWant {
			t.Fatal(p, "has", list, ok, "not", want, okWant)
		}
		n, okCount := impl.CountReductions(p)
		stuck, okStuck := impl.IsStuck(p)
		if n != len(want) || okCount != ok || stuck != (ok && n == 0) || okStuck != ok {
			t.Fatal(p, "has", n, stuck, okCount, okStuck)
		}
		sends, okSends := impl.SendsOf(p)
		receives, okReceives := impl.ReceivesOf(p)
		if sends != offeredBySigns(p, "!#") || receives != offeredBySigns(p, "?") || !okSends || !okReceives {
			t.Fatal(p, "offers", sends, receives)
		}
		if n > 1 {
			several++
		}
		if !ok {
			failed++
		}
	}
	if several < 500 || failed < 5 {
		t.Error("few with several reductions, or none:", several, failed)
	}
}

// runsBySigns is what is reached, found sign by sign: for each process its results and the least number of steps to it.
type runsBySigns struct {
	results map[string][]string
	least   map[string]int
}

// newRuns fails if too many are reached, or if a result is no process. It gives up at processes that have no room to be followed sign by sign.
func newRuns(p string) (r runsBySigns, ok, known bool) {
	normal, _ := impl.NormalForm(p)
	r = runsBySigns{map[string][]string{}, map[string]int{normal: 0}}
	for list := []string{normal}; len(list) > 0; list = list[1:] {
		if n, _ := impl.SizeOf(list[0]); n > 28 {
			return r, false, false
		}
		results, ok := resultsBySigns(list[0])
		if !ok || len(r.least) > impl.MaxReached {
			return r, false, true
		}
		r.results[list[0]] = results
		for _, q := range results {
			if _, known := r.least[q]; !known {
				r.least[q] = r.least[list[0]] + 1
				list = append(list, q)
			}
		}
	}
	return r, true, true
}

func (r runsBySigns) stuck() []string {
	var out []string
	for p, results := range r.results {
		if len(results) == 0 {
			out = append(out, p)
		}
	}
	slices.Sort(out)
	return out
}

// longest returns the greatest number of steps behind those that are taken; it fails if a process comes again.
func (r runsBySigns) longest(p string, taken []string, known map[string]int) (int, bool) {
	if slices.Contains(taken, p) {
		return 0, false
	}
	if n, ok := known[p]; ok {
		return n, true
	}
	most := 0
	for _, q := range r.results[p] {
		n, ok := r.longest(q, append(taken, p), known)
		if !ok {
			return 0, false
		}
		most = max(most, n+1)
	}
	known[p] = most
	return most, true
}

// TestRunsAreSteps compares all that is told of runs with what is found sign by sign.
func TestRunsAreSteps(t *testing.T) {
	failed, goOn, several, long, skipped := 0, 0, 0, 0, 0
	for _, p := range simpleProcesses() {
		r, ok, known := newRuns(p)
		if !known {
			skipped++
			continue
		}
		if !ok {
			checkNoRuns(t, p)
			failed++
			continue
		}
		n, goesOn := checkRuns(t, p, r)
		if goesOn {
			goOn++
		}
		if len(r.stuck()) > 1 {
			several++
		}
		if n > 3 {
			long++
		}
		if t.Failed() {
			t.Fatal(p)
		}
	}
	if failed < 30 || goOn < 30 || several < 200 || long < 100 || skipped > 150 {
		t.Error("few of a kind, or many left aside:", failed, goOn, several, long, skipped)
	}
}

// checkRuns returns the length of the longest run, and whether there are runs without end.
func checkRuns(t *testing.T, p string, r runsBySigns) (int, bool) {
	t.Helper()
	if list, ok := impl.ReachedFrom(p); !slices.Equal(list, slices.Sorted(maps.Keys(r.least))) || !ok {
		t.Error("reached:", list, ok)
	}
	stuck := r.stuck()
	if list, ok := impl.StuckFrom(p); !slices.Equal(list, stuck) || !ok {
		t.Error("stuck:", list, ok)
	}
	if is, ok := impl.IsDeterminate(p); is != (len(stuck) < 2) || !ok {
		t.Error("determinate:", is, ok)
	}
	for q, steps := range r.least {
		if n, ok := impl.StepsTo(p, q); n != steps || !ok {
			t.Error("steps to", q, n, ok)
		}
	}
	if n, ok := impl.StepsTo(p, "c!c.c!c.c!c.0"); n != 0 || ok {
		t.Error("steps to what is not reached:", n, ok)
	}
	normal, _ := impl.NormalForm(p)
	most, ends := r.longest(normal, nil, map[string]int{})
	if n, ok := impl.LongestRun(p); n != most || ok != ends {
		t.Error("longest:", n, ok)
	}
	if is, ok := impl.CanGoOn(p); is == ends || !ok {
		t.Error("goes on:", is, ok)
	}
	checkChosen(t, p, r)
	return most, !ends
}

// checkChosen follows choices.
func checkChosen(t *testing.T, p string, r runsBySigns) {
	t.Helper()
	m := maker{state: uint64(len(p) * len(r.least))}
	choices := make([]int, 6)
	for i := range choices {
		choices[i] = m.below(1000)
	}
	at, _ := impl.NormalForm(p)
	want := []string{at}
	for _, index := range choices {
		results := r.results[at]
		if len(results) == 0 {
			break
		}
		at = results[index%len(results)]
		want = append(want, at)
	}
	if run, ok := impl.RunBy(p, choices); !slices.Equal(run, want) || !ok {
		t.Error("run:", choices, run, ok)
	}
}

// TestCongruentOnesReduceAlike goes by the laws of chapter 2 to congruent processes: the same is reached from them.
func TestCongruentOnesReduceAlike(t *testing.T) {
	m := maker{state: 17, names: "abc"}
	for i := range 300 {
		p := "(" + m.simple(4+i%6) + "&" + m.simple(3+i%5) + ")"
		q := p
		for range 8 {
			if all := inAnyPlace(q, "", lesserByLaw); len(all) > 0 {
				q = all[m.below(len(all))]
			}
			if simple, _ := impl.IsSimple(q); !simple {
				t.Fatal("no longer simple:", p, q)
			}
			one, okOne := impl.ReductionsOf(p)
			other, okOther := impl.ReductionsOf(q)
			if !slices.Equal(one, other) || okOne != okOther {
				t.Fatal(p, "has", one, okOne, "but", q, "has", other, okOther)
			}
		}
	}
}
