package tests

import (
	"maps"
	"slices"
	"strings"
	"testing"

	"loop.example/g01175/impl"
)

// behind returns all that is reached from a process, itself with it.
func (r runsBySigns) behind(p string, found map[string]bool) map[string]bool {
	if !found[p] {
		found[p] = true
		for _, q := range r.results[p] {
			r.behind(q, found)
		}
	}
	return found
}

// weakly returns the names over which actions of some kinds are done sooner or later.
func (r runsBySigns) weakly(p, kinds string) string {
	found := map[rune]bool{}
	for q := range r.behind(p, map[string]bool{}) {
		for _, name := range offeredBySigns(q, kinds) {
			found[name] = true
		}
	}
	return string(slices.Sorted(maps.Keys(found)))
}

// apartBySigns tells processes apart round by round, found sign by sign.
type apartBySigns struct {
	results map[string][]string
	reached map[string]map[string]bool
	barbs   map[string]string
	rounds  map[[2]string]int // of those that are told apart
}

// newApart takes up all that is reached in several runs.
func newApart(all ...runsBySigns) *apartBySigns {
	a := &apartBySigns{map[string][]string{}, map[string]map[string]bool{}, map[string]string{}, map[[2]string]int{}}
	for _, r := range all {
		for p, results := range r.results {
			a.results[p] = results
			a.reached[p] = r.behind(p, map[string]bool{})
			a.barbs[p] = r.weakly(p, "!#") + "|" + r.weakly(p, "?")
		}
	}
	for round := 0; a.tellApart(round); round++ {
	}
	return a
}

// tellApart tells more apart, and reports whether there are such.
func (a *apartBySigns) tellApart(round int) bool {
	more := [][2]string{}
	for p := range a.results {
		for q := range a.results {
			_, before := a.rounds[[2]string{p, q}]
			if before {
				continue
			}
			if a.barbs[p] != a.barbs[q] || round > 0 && !(a.follows(p, q) && a.follows(q, p)) {
				more = append(more, [2]string{p, q})
			}
		}
	}
	for _, both := range more {
		a.rounds[both] = round
	}
	return len(more) > 0 || round == 0
}

// follows reports whether for each result of one the other one reaches one that is not told apart before.
func (a *apartBySigns) follows(p, q string) bool {
	for _, result := range a.results[p] {
		found := false
		for reached := range a.reached[q] {
			if _, apart := a.rounds[[2]string{result, reached}]; !apart {
				found = true
			}
		}
		if !found {
			return false
		}
	}
	return true
}

// firstBarbOf returns the first barb of one of both alone.
func firstBarbOf(sends, receives, otherSends, otherReceives string) string {
	for _, name := range alphabet {
		if strings.ContainsRune(sends, name) != strings.ContainsRune(otherSends, name) {
			return "!" + string(name)
		}
		if strings.ContainsRune(receives, name) != strings.ContainsRune(otherReceives, name) {
			return "?" + string(name)
		}
	}
	return ""
}

// checkClassesBySigns checks that those are in one class that are not told apart.
func (a *apartBySigns) checkClasses(t *testing.T, p string) {
	t.Helper()
	classes, ok := impl.WeakClasses(p)
	if !ok || !slices.Equal(slices.Sorted(slices.Values(slices.Concat(classes...))), slices.Sorted(maps.Keys(a.results))) {
		t.Error("not all that is reached:", p, classes, ok)
	}
	last := ""
	for i, class := range classes {
		if len(class) == 0 || class[0] <= last || !slices.IsSorted(class) {
			t.Fatal("order:", p, classes)
		}
		last = class[0]
		for _, q := range class {
			for j, other := range classes {
				for _, r := range other {
					if _, apart := a.rounds[[2]string{q, r}]; apart == (i == j) {
						t.Fatal(p, q, r, "are told apart:", apart)
					}
				}
			}
		}
	}
}

// TestWeakBarbsBySigns compares barbs and classes with what is found sign by sign.
func TestWeakBarbsBySigns(t *testing.T) {
	failed, several, only, many, skipped := 0, 0, 0, 0, 0
	for _, p := range simpleProcesses() {
		r, ok, known := newRuns(p)
		if !known {
			skipped++
			continue
		}
		if !ok {
			checkNoWeb(t, p)
			failed++
			continue
		}
		normal, _ := impl.NormalForm(p)
		sends, okSends := impl.WeakSends(p)
		receives, okReceives := impl.WeakReceives(p)
		if sends != r.weakly(normal, "!#") || receives != r.weakly(normal, "?") || !okSends || !okReceives {
			t.Fatal(p, "has", sends, receives)
		}
		if sends+receives != offeredBySigns(p, "!#")+offeredBySigns(p, "?") {
			only++
		}
		if len(r.results) > 16 {
			many++ // for which there is no time here
			continue
		}
		newApart(r).checkClasses(t, p)
		if classes, _ := impl.WeakClasses(p); len(classes) > 1 {
			several++
		}
	}
	if failed < 30 || several < 300 || only < 300 || skipped > 150 || many > 150 {
		t.Error("few of a kind, or many left aside:", failed, several, only, skipped, many)
	}
}

// branching makes one of at most n signs that goes mostly silent ways.
func (m *maker) branching(n int) string {
	switch kind := m.below(9); {
	case n <= 1 || kind == 0:
		return "0"
	case kind < 5 && n >= 3:
		k := 1 + m.below(n-2)
		return "(" + m.branching(k) + "+" + m.branching(n-1-k) + ")"
	case kind < 8:
		return "~." + m.branching(n-1)
	}
	return m.name() + []string{"!a.0", "?x.0"}[m.below(2)]
}

// branchingPairs has pairs of processes, some with others beside them.
func branchingPairs() [][2]string {
	var out [][2]string
	add := func(p, q string) { out = append(out, [2]string{p, q}) }
	for _, names := range []string{"a", "ab"} {
		m := maker{state: 7 * uint64(len(names)), names: names}
		for i := range 1500 {
			p, q := m.branching(2+i%11), m.branching(2+i%11)
			add(p, q)
			add(p, "(~."+p+"+"+q+")")
			if i%10 == 0 {
				beside := m.soup(1, 2)
				add("("+p+"&"+beside+")", "("+q+"&"+beside+")")
				add(p, "("+p+"&"+beside+")")
			}
		}
		for i := range 300 {
			p, q := m.soup(1+i%3, 4), m.soup(1+i%3, 4)
			add(p, q)
			add("(~."+p+"+~."+q+")", "(~."+p+"+"+m.guarded(4)+")")
		}
	}
	may, can := "(~.0+~.a!b.0)", "(a!b.0+~.0)"
	for i := range 5 {
		for j := range 5 {
			add(strings.Repeat("~.", i)+may, strings.Repeat("~.", j)+can)
			add(strings.Repeat("~.", i)+may, chainsBeside(8, 8+j, "a!a.0", "b!b.0"))
		}
	}
	return out
}

// TestToldApartBySigns compares pairs with what is found sign by sign.
func TestToldApartBySigns(t *testing.T) {
	rounds, failed, skipped := map[int]int{}, 0, 0
	for _, c := range branchingPairs() {
		p, q := c[0], c[1]
		one, okOne, knownOne := newRuns(p)
		other, okOther, knownOther := newRuns(q)
		if knownOne && knownOther && !(okOne && okOther) {
			checkNotCompared(t, p, q)
			failed++
			continue
		}
		if !knownOne || !knownOther || len(one.least)+len(other.least) > 50 {
			skipped++
			continue
		}
		normalP, normalQ := normalBoth(p, q)
		round, apart := newApart(one, other).rounds[[2]string{normalP, normalQ}]
		if !apart {
			round = -1
		}
		checkApart(t, p, q, round, firstBarbOf(one.weakly(normalP, "!#"), one.weakly(normalP, "?"), other.weakly(normalQ, "!#"), other.weakly(normalQ, "?")))
		if t.Failed() {
			t.Fatal(p, q)
		}
		rounds[round]++
	}
	if rounds[-1] < 500 || rounds[0] < 500 || rounds[1] < 100 || rounds[2] < 20 || rounds[3] < 5 || rounds[4] < 4 || failed < 25 || skipped > 100 {
		t.Error("few of a kind, or many left aside:", rounds, failed, skipped)
	}
}

// TestWeaklyAlikeOnesFollow follows the steps of those that are weakly alike.
func TestWeaklyAlikeOnesFollow(t *testing.T) {
	followed, silent := 0, 0
	for _, c := range branchingPairs() {
		is, _ := impl.AreWeaklyAlike(c[0], c[1])
		if !is {
			continue
		}
		for _, both := range [][2]string{c, {c[1], c[0]}} {
			checkFollows(t, both[0], both[1])
			results, _ := impl.ReductionsOf(both[0])
			stuck, _ := impl.IsStuck(both[1])
			followed += len(results)
			if stuck {
				silent += len(results)
			}
		}
	}
	if followed < 500 || silent < 100 {
		t.Error("few steps:", followed, silent)
	}
}

// checkFollows checks that q has the barbs of p, sooner or later, and reaches one that is weakly alike for each reduction of p.
func checkFollows(t *testing.T, p, q string) {
	t.Helper()
	sends, _ := impl.SendsOf(p)
	receives, _ := impl.ReceivesOf(p)
	weakSends, _ := impl.WeakSends(q)
	weakReceives, _ := impl.WeakReceives(q)
	for _, name := range sends {
		if !strings.ContainsRune(weakSends, name) {
			t.Fatal(p, q, "are alike, but only one sends over", string(name))
		}
	}
	for _, name := range receives {
		if !strings.ContainsRune(weakReceives, name) {
			t.Fatal(p, q, "are alike, but only one receives over", string(name))
		}
	}
	results, _ := impl.ReductionsOf(p)
	reached, _ := impl.ReachedFrom(q)
	for _, result := range results {
		if !slices.ContainsFunc(reached, func(r string) bool {
			is, _ := impl.AreWeaklyAlike(result, r)
			return is
		}) {
			t.Fatal(p, q, "are alike, but only one comes to", result)
		}
	}
}

// sameWeakly returns processes that are weakly alike another one.
func sameWeakly(p string) []string {
	normal, _ := impl.NormalForm(p)
	out := []string{p, normal, "(0&" + p + ")", "~." + p, "(~.~." + p + "+~." + normal + ")", sideBySide(p, "~.0"), sideBySide(hidden, p)}
	if free, _ := impl.FreeNames(p); !strings.Contains(free, "z") {
		out = append(out, "#z.("+p+"&z?x.0)", "#z.(z!z.0&z?z."+p+")")
	}
	return out
}

// TestAlikeOnesAreWeaklyAlike compares with congruence and with what chapter 5 tells.
func TestAlikeOnesAreWeaklyAlike(t *testing.T) {
	laws := 0
	for i, p := range simpleProcesses() {
		if reached, ok := impl.ReachedFrom(p); !ok || len(reached) > 25 || i%4 != 0 {
			continue
		}
		for _, q := range sameWeakly(p) {
			if _, ok := impl.ReachedFrom(q); !ok {
				continue
			}
			if is, ok := impl.AreWeaklyAlike(p, q); !is || !ok {
				t.Fatal(p, q, is, ok)
			}
			laws++
		}
	}
	if laws < 3000 {
		t.Error("few:", laws)
	}
	alike, more := 0, 0
	for _, c := range comparedPairs() {
		early, ok := impl.AreEarlyAlike(c[0], c[1])
		weakly, okWeakly := impl.AreWeaklyAlike(c[0], c[1])
		if early && !weakly || ok && !okWeakly {
			t.Fatal(c, early, weakly, okWeakly)
		}
		if early {
			alike++
		} else if weakly {
			more++
		}
	}
	if alike < 100 || more < 30 {
		t.Error("few that are alike, or only weakly:", alike, more)
	}
}
