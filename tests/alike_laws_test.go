package tests

import (
	"maps"
	"slices"
	"strconv"
	"strings"
	"testing"

	"loop.example/g01175/impl"
)

// comparing tells of processes, sign by sign and without normal forms, whether they are alike in one way.
type comparing struct {
	way   string // early, late or ground
	known map[string]bool
}

func newComparing(way string) comparing { return comparing{way, map[string]bool{}} }

// freeInBoth returns the names that are free in one of two processes.
func freeInBoth(p, q string) string {
	free, _ := impl.FreeNames("(" + p + "&" + q + ")")
	return free
}

// alike reports whether two processes are for k steps.
func (c comparing) alike(p, q string, k int) bool {
	if k == 0 {
		return true
	}
	key := p + " " + q + " " + strconv.Itoa(k)
	is, ok := c.known[key]
	if !ok {
		fresh := freshFor(p, q)
		names := freeInBoth(p, q) + fresh
		received := map[string]string{"early": names, "late": "", "ground": fresh}[c.way]
		left, right := labelsBySigns(p, received, fresh), labelsBySigns(q, received, fresh)
		is = c.covers(left, right, k-1) && c.covers(right, left, k-1)
		if is && c.way == "late" {
			is = c.receives(p, q, names, k-1) && c.receives(q, p, names, k-1)
		}
		c.known[key] = is
	}
	return is
}

// covers reports whether each result has one with the same label that is alike for k steps.
func (c comparing) covers(left, right map[string][]string, k int) bool {
	for label, results := range left {
		for _, p := range results {
			if !slices.ContainsFunc(right[label], func(q string) bool { return c.alike(p, q, k) }) {
				return false
			}
		}
	}
	return true
}

// receives reports whether each input has one over the same name, so that both results are alike for k steps with each of some names.
func (c comparing) receives(p, q, names string, k int) bool {
	for _, a := range actionsOf(p) {
		if a.kind == "?" && !slices.ContainsFunc(actionsOf(q), func(b action) bool { return c.receivesAlike(a, b, names, k) }) {
			return false
		}
	}
	return true
}

func (c comparing) receivesAlike(a, b action, names string, k int) bool {
	if b.kind != "?" || a.over != b.over {
		return false
	}
	for _, name := range names {
		if !c.alike(renamed(a.behind, a.name, string(name)), renamed(b.behind, b.name, string(name)), k) {
			return false
		}
	}
	return true
}

// depth returns for how many steps two are first told apart, 0 if for none.
func (c comparing) depth(p, q string) int {
	for k := range impl.MaxAlike + 1 {
		if !c.alike(p, q, k) {
			return k
		}
	}
	return 0
}

// normalBoth returns the normal forms of two processes.
func normalBoth(p, q string) (string, string) {
	p, _ = impl.NormalForm(p)
	q, _ = impl.NormalForm(q)
	return p, q
}

// formula makes FormulaFor two normal forms as the document tells it.
func (c comparing) formula(p, q string) string {
	k := c.depth(p, q)
	if text, ok := c.firstStep(p, q, k-1); ok {
		return text
	}
	text, ok := c.firstStep(q, p, k-1)
	if !ok {
		panic("no step: " + p + " " + q)
	}
	return "!" + text
}

func (c comparing) firstStep(p, q string, k int) (string, bool) {
	fresh := freshFor(p, q)
	found := labelsBySigns(p, freeInBoth(p, q)+fresh, fresh)
	for _, label := range slices.Sorted(maps.Keys(found)) {
		results, _ := normalFormsOf(found[label])
		others, ok := withBySigns(q, label)
		if !ok {
			panic(label + " of " + q)
		}
		for _, result := range results {
			if slices.ContainsFunc(others, func(other string) bool { return c.alike(result, other, k) }) {
				continue
			}
			behind := ""
			for i, other := range others {
				if text := c.formula(result, other); i < len(others)-1 {
					behind += "(" + text + "&"
				} else {
					behind += text
				}
			}
			if len(others) == 0 {
				return "<" + label + ">T", true
			}
			return "<" + label + ">" + behind + strings.Repeat(")", len(others)-1), true
		}
	}
	return "", false
}

// isCompared reports whether chapter 5 takes a process.
func isCompared(p string) bool {
	simple, _ := impl.IsSimple(p)
	finite, _ := impl.IsFinite(p)
	n, _ := impl.SizeOf(p)
	return simple && finite && n <= impl.MaxAlike
}

// changed makes a process that differs in one place.
func (m *maker) changed(p string) string {
	paths := pathsOf(p, "")
	path := paths[m.below(len(paths))]
	part, _ := impl.SubtermAt(p, path)
	other := m.simple(1 + m.below(4))
	switch m.below(8) {
	case 0:
		other = "(" + part + "+" + part + ")"
	case 1:
		other = "(" + part + "+" + m.guarded(1+m.below(3)) + ")"
	case 2:
		other = "(" + part + "&" + m.simple(1+m.below(3)) + ")"
	case 3:
		other = "[" + m.name() + "=" + m.name() + "]" + part
	case 4:
		if parts := partsOf(part); len(parts) > 0 {
			other = parts[m.below(len(parts))]
		}
	case 5:
		other = "~." + part
	case 6:
		other = strings.ReplaceAll(part, m.name(), m.name())
	}
	q, _ := impl.ReplaceAt(p, path, other)
	return q
}

// waysDiffer has processes that are alike in one way and not in the next one, or nearly so.
func waysDiffer() [][2]string {
	return append(notLate(), [][2]string{
		{"a?x.(x!x.0&b?y.0)", "a?x.(x!x.b?y.0+b?y.x!x.0)"},
		{"a?x.(x!x.0&a?y.0)", "a?x.(x!x.a?y.0+a?y.x!x.0)"},
		{"a?x.[x=b]a!x.0", "a?x.[x=a]b!x.0"},
		{"a?x.x!b.0", "a?x.(x!b.0+x!b.[x=a]~.0)"},
	}...)
}

// comparedPairs returns processes that chapter 5 takes, many of them alike or nearly so.
func comparedPairs() [][2]string {
	var out [][2]string
	add := func(p, q string) {
		if isCompared(p) && isCompared(q) {
			out = append(out, [2]string{p, q})
		}
	}
	var short []string
	for p := range shortProcesses(6) {
		if isCompared(p) {
			short = append(short, p)
		}
	}
	slices.Sort(short)
	for i, p := range short {
		for j := range i {
			if (i+j)%5 == 0 {
				add(p, short[j])
			}
		}
	}
	for _, names := range []string{"ab", "abc", "abx"} {
		m := maker{state: 61 * uint64(len(names)+strings.Index(names, "x")), names: names}
		for i := range 1500 {
			p := m.simple(4 + i%6)
			if i%3 == 0 {
				p = "a?" + m.name() + "." + m.guarded(3+i%6)
			}
			add(p, m.changed(p))
			add(p, m.changed(m.changed(p)))
		}
		for range 60 {
			for _, pair := range waysDiffer() {
				add(pair[0], m.changed(pair[0]))
				add(m.changed(pair[0]), m.changed(pair[1]))
			}
		}
	}
	for _, pair := range waysDiffer() {
		add(pair[0], pair[1])
	}
	return out
}

// TestAlikeBySigns compares all that is told of two processes with what is found sign by sign.
func TestAlikeBySigns(t *testing.T) {
	kinds := map[string]int{}
	early, late, ground := newComparing("early"), newComparing("late"), newComparing("ground")
	for _, pair := range comparedPairs() {
		p, q := pair[0], pair[1]
		a := apart{p, q, early.depth(p, q), late.alike(p, q, impl.MaxAlike), ground.alike(p, q, impl.MaxAlike), "", ""}
		if a.depth > 0 {
			normalP, normalQ := normalBoth(p, q)
			a.forth, a.back = early.formula(normalP, normalQ), early.formula(normalQ, normalP)
		}
		a.check(t)
		if t.Failed() {
			t.Fatal(p, q)
		}
		kinds["depth "+strconv.Itoa(a.depth)]++
		if strings.HasPrefix(a.forth, "!") {
			kinds["!"]++
		}
		if strings.Contains(a.forth, "&") {
			kinds["&"]++
		}
		if strings.Contains(a.forth, "#") {
			kinds["#"]++
		}
		if same, _ := impl.AreCongruent(p, q); a.depth == 0 && !same {
			kinds["alike, not congruent"]++
		}
		if a.late && a.depth > 0 || a.depth == 0 && !a.ground {
			t.Error("late ones are early alike, and these ground alike:", p, q)
		}
		if a.ground && a.depth > 0 {
			kinds["ground alone"]++
		}
		if a.depth == 0 && !a.late {
			kinds["not late"]++
		}
	}
	for kind, n := range map[string]int{"depth 1": 500, "depth 2": 200, "depth 3": 50, "depth 4": 5, "alike, not congruent": 100, "!": 100, "&": 20, "#": 20, "ground alone": 20, "not late": 5} {
		if kinds[kind] < n {
			t.Error("few of a kind:", kind, kinds[kind])
		}
	}
}

// satisfiesBySigns reports whether a process satisfies the formula at the beginning of a text, and returns what is behind it.
func satisfiesBySigns(p, text string) (bool, string) {
	switch text[0] {
	case 'T':
		return true, text[1:]
	case '!':
		holds, rest := satisfiesBySigns(p, text[1:])
		return !holds, rest
	case '(':
		one, rest := satisfiesBySigns(p, text[1:])
		other, rest := satisfiesBySigns(p, rest[1:])
		return one && other, rest[1:]
	}
	label, behind, _ := strings.Cut(text[1:], ">")
	results, _ := withBySigns(p, label) // none if a name is free
	_, rest := satisfiesBySigns("0", behind)
	return slices.ContainsFunc(results, func(q string) bool {
		holds, _ := satisfiesBySigns(q, behind)
		return holds
	}), rest
}

// TestSatisfiedBySigns compares with what is found sign by sign. Processes that are early alike satisfy the same formulas, if these send no names of their own as ones that are free in one of both.
func TestSatisfiedBySigns(t *testing.T) {
	m := maker{state: 67, names: "abc"}
	yes, no, same := 0, 0, 0
	for i, pair := range comparedPairs() {
		p, q := pair[0], pair[1]
		alike, _ := impl.AreEarlyAlike(p, q)
		for j := range 4 {
			formula := m.formula(1 + (i+j)%4)
			holds, ok := impl.Satisfies(p, formula)
			if want, _ := satisfiesBySigns(p, formula); holds != want || !ok {
				t.Fatal(p, formula, holds, ok)
			}
			if holds {
				yes++
			} else {
				no++
			}
			if alike && !strings.Contains(formula, "#") {
				if other, ok := impl.Satisfies(q, formula); other != holds || !ok {
					t.Fatal(p, q, "are alike, but", formula)
				}
				same++
			}
		}
	}
	if yes < 2000 || no < 2000 || same < 2000 {
		t.Error("few of a kind:", yes, no, same)
	}
}

// TestExchangedLetters exchanges letters in both processes: the same is told of them.
func TestExchangedLetters(t *testing.T) {
	for i, pair := range comparedPairs() {
		if i%5 > 0 {
			continue
		}
		p, q := pair[0], pair[1]
		for _, other := range "bz" {
			r, s := exchangedNames(p, "a", string(other)), exchangedNames(q, "a", string(other))
			k, _ := impl.FirstDepth(p, q)
			if n, _ := impl.FirstDepth(r, s); n != k {
				t.Fatal(p, q, k, n)
			}
			for _, f := range []func(p, q string) (bool, bool){impl.AreEarlyAlike, impl.AreLateAlike, impl.AreGroundAlike} {
				is, ok := f(p, q)
				if again, okAgain := f(r, s); is != again || ok != okAgain {
					t.Fatal(p, q, is, again)
				}
			}
		}
	}
}

// contexts puts a process into others, but not behind an input.
func contexts(p string) []string {
	return []string{"~." + p, "a!b." + p, "[a=a]" + p, "[a=b]" + p, "#a." + p, "#b." + p, "(" + p + "&~.0)", "(" + p + "&a!b.0)", "(b?x.0&" + p + ")", "(a?x.x!b.0&" + p + ")", "(" + p + "+~.0)", "(a!b.0+" + p + ")"}
}

// TestAlikeInContexts puts processes that are early or late alike into the same contexts, where they stay so.
func TestAlikeInContexts(t *testing.T) {
	found := 0
	for _, pair := range comparedPairs() {
		p, q := pair[0], pair[1]
		early, _ := impl.AreEarlyAlike(p, q)
		late, _ := impl.AreLateAlike(p, q)
		if congruent, _ := impl.AreCongruent(p, q); congruent || !early {
			continue
		}
		others := contexts(q)
		for i, r := range contexts(p) {
			if !isCompared(r) || !isCompared(others[i]) {
				continue
			}
			found++
			checkBool(t, "AreEarlyAlike", impl.AreEarlyAlike, r, others[i], true)
			if late {
				checkBool(t, "AreLateAlike", impl.AreLateAlike, r, others[i], true)
			}
		}
	}
	if found < 500 {
		t.Error("few of them:", found)
	}
}

// TestAnyArgumentsOfChapter5 calls the functions with texts of all kinds: none may panic, and a call that fails returns zero values.
func TestAnyArgumentsOfChapter5(t *testing.T) {
	texts := slices.Concat(noProcesses(), notSimple(), noFormulas(), []string{"0", "a", "~.0", "a!b.0", "T", "!<~>T", example, letters26, letters25, alphabet, silents(8), silents(9)})
	some := []string{"0", "~.0", "a?x.x!b.0", "T", "", "*0", "\xff", example, letters26}
	for _, p := range texts {
		for _, q := range some {
			valid := isCompared(p) && isCompared(q)
			for range 2 {
				for name, f := range callsForTwo() {
					zero, ok := f(p, q)
					checkZero(t, name, ok, zero)
					if ok && !valid || !ok && valid && strings.HasPrefix(name, "Are") {
						t.Errorf("%s(%.40q, %.40q): %v", name, p, q, ok)
					}
				}
				is, ok := impl.Satisfies(p, q)
				if ok != (isCompared(p) && impl.IsFormula(q)) || !ok && is {
					t.Errorf("Satisfies(%.40q, %.40q): %v %v", p, q, is, ok)
				}
				p, q = q, p
			}
		}
		if n, ok := impl.DepthOfFormula(p); ok != impl.IsFormula(p) || !ok && n != 0 {
			t.Errorf("DepthOfFormula(%.40q): %d %v", p, n, ok)
		}
	}
}
