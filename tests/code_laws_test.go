package tests

import (
	"maps"
	"slices"
	"strings"
	"testing"

	"loop.example/g01175/impl"
)

// codes finds the texts of codings by patterns; "" stands for a call that fails.
type codes struct{}

func isNameText(a string) bool { return len(a) == 1 && strings.Contains(alphabet, a) }

func isTupleText(names string) bool {
	return len(names) >= 1 && len(names) <= 4 && strings.Trim(names, alphabet) == ""
}

// freeOf returns the free names of processes. It fails if one is none.
func freeOf(list ...string) (string, bool) {
	names := ""
	for _, p := range list {
		free, ok := impl.FreeNames(p)
		if !ok {
			return "", false
		}
		names += free
	}
	return names, true
}

// lettersWithout returns all letters that are not taken.
func lettersWithout(taken string) string {
	return strings.Map(func(r rune) rune {
		if strings.ContainsRune(taken, r) {
			return -1
		}
		return r
	}, alphabet)
}

// lettersFor returns the first letters, as many as in the text of capitals, that are not taken, as what a pattern has for these; ok is what has to be true otherwise.
func lettersFor(ok bool, capitals, taken string, more ...string) ([]string, bool) {
	left := lettersWithout(taken)
	if !ok || len(left) < len(capitals) {
		return nil, false
	}
	for i := range capitals {
		more = append(more, capitals[i:i+1], left[i:i+1])
	}
	return more, true
}

// filled puts texts in the places of capitals.
func filled(pattern string, pairs []string, ok bool) string {
	text := strings.NewReplacer(pairs...).Replace(pattern)
	if !ok || !impl.IsProcess(text) {
		return ""
	}
	return text
}

func (codes) send(a, names, p string) string {
	free, ok := freeOf(p)
	pairs, ok := lettersFor(ok && isNameText(a) && isTupleText(names), "W", a+names+free, "A", a, "P", p)
	if !ok {
		return ""
	}
	return filled("#W.A!W.W!"+strings.Join(strings.Split(names, ""), ".W!")+".P", pairs, ok)
}

func (codes) receive(a, names, p string) string {
	for i := range names {
		if strings.Count(names, names[i:i+1]) > 1 {
			return ""
		}
	}
	free, ok := freeOf(p)
	pairs, ok := lettersFor(ok && isNameText(a) && isTupleText(names), "W", a+names+free, "A", a, "P", p)
	if !ok {
		return ""
	}
	return filled("A?W.W?"+strings.Join(strings.Split(names, ""), ".W?")+".P", pairs, ok)
}

func (codes) truth(a string, value bool) string {
	pairs, ok := lettersFor(isNameText(a), "XYW", a, "A", a)
	if value {
		return filled("*A?W.W?X.W?Y.X!X.0", pairs, ok)
	}
	return filled("*A?W.W?X.W?Y.Y!Y.0", pairs, ok)
}

func (c codes) test(a, p, q string) string {
	free, ok := freeOf(p, q)
	pairs, ok := lettersFor(ok && isNameText(a), "XYZ", a+free, "P", p, "Q", q)
	if !ok {
		return ""
	}
	sends := c.send(a, pairs[5]+pairs[7], "0")
	return filled("#X.#Y.(S&(X?Z.P&Y?Z.Q))", append(pairs, "S", sends), ok)
}

func (c codes) not(a, b string) string {
	pairs, ok := lettersFor(isNameText(a) && isNameText(b), "XY", a+b)
	if !ok {
		return ""
	}
	x, y := pairs[1], pairs[3]
	return "*" + c.receive(a, x+y, c.send(b, y+x, "0"))
}

func (c codes) and(a, b, d string) string {
	pairs, ok := lettersFor(isNameText(a) && isNameText(b) && isNameText(d), "XYUZ", a+b+d)
	if !ok {
		return ""
	}
	x, y, u := pairs[1], pairs[3], pairs[5]
	pairs = append(pairs, "S", c.send(b, u+y, "0"), "T", c.send(d, x+y, "0"))
	return "*" + c.receive(a, x+y, filled("#U.(S&U?Z.T)", pairs, ok))
}

func (codes) forward(a, b string) string {
	pairs, ok := lettersFor(isNameText(a) && isNameText(b), "X", a+b, "A", a, "B", b)
	return filled("*A?X.B!X.0", pairs, ok)
}

func (codes) cell(a, v string) string {
	return filled("A!V.0", []string{"A", a, "V", v}, isNameText(a) && isNameText(v))
}

func (codes) read(a, x, p string) string {
	ok := isNameText(a) && isNameText(x) && impl.IsProcess(p) && a != x
	return filled("A?X.(A!X.0&P)", []string{"A", a, "X", x, "P", p}, ok)
}

func (codes) write(a, v, p string) string {
	free, ok := freeOf(p)
	pairs, ok := lettersFor(ok && isNameText(a) && isNameText(v), "Z", a+v+free, "A", a, "V", v, "P", p)
	return filled("A?Z.(A!V.0&P)", pairs, ok)
}

func (codes) choice(p, q string) string {
	free, ok := freeOf(p, q)
	pairs, ok := lettersFor(ok, "SZ", free, "P", p, "Q", q)
	return filled("#S.(S!S.0&(S?Z.P&S?Z.Q))", pairs, ok)
}

// checkCodes compares all codings of some arguments with their patterns.
func checkCodes(t *testing.T, a, b, c, names, p, q string) {
	t.Helper()
	checkText(t, codes{}.send(a, names, p), "SendTuple", a, names, p)(impl.SendTuple(a, names, p))
	checkText(t, codes{}.receive(a, names, p), "ReceiveTuple", a, names, p)(impl.ReceiveTuple(a, names, p))
	checkText(t, codes{}.truth(a, true), "TruthAt", a, "true")(impl.TruthAt(a, true))
	checkText(t, codes{}.truth(a, false), "TruthAt", a, "false")(impl.TruthAt(a, false))
	checkText(t, codes{}.test(a, p, q), "TestAt", a, p, q)(impl.TestAt(a, p, q))
	checkText(t, codes{}.not(a, b), "NotAt", a, b)(impl.NotAt(a, b))
	checkText(t, codes{}.and(a, b, c), "AndAt", a, b, c)(impl.AndAt(a, b, c))
	checkText(t, codes{}.forward(a, b), "ForwardAt", a, b)(impl.ForwardAt(a, b))
	checkText(t, codes{}.cell(a, b), "CellAt", a, b)(impl.CellAt(a, b))
	checkText(t, codes{}.read(a, b, p), "ReadCell", a, b, p)(impl.ReadCell(a, b, p))
	checkText(t, codes{}.write(a, b, p), "WriteCell", a, b, p)(impl.WriteCell(a, b, p))
	checkText(t, codes{}.choice(p, q), "ChoiceOf", p, q)(impl.ChoiceOf(p, q))
}

// TestCodingsByPatterns has names and tuples of all kinds, and processes with few letters and with many.
func TestCodingsByPatterns(t *testing.T) {
	for _, a := range alphabet {
		for _, b := range alphabet {
			for _, c := range "abcdz" {
				checkText(t, codes{}.and(string(a), string(b), string(c)), "AndAt")(impl.AndAt(string(a), string(b), string(c)))
			}
			checkCodes(t, string(a), string(b), string(b), string(a)+string(b), "0", "~.0")
		}
	}
	for i, names := range []string{"ab", "abcde", "abcdefghij", alphabet} {
		m := maker{state: 7 + uint64(i), names: names}
		for j := range 1500 {
			p, q := m.process(1+j%40), m.process(1+m.below(20))
			tuple := ""
			for range 1 + m.below(4) {
				tuple += m.name()
			}
			checkCodes(t, m.name(), m.name(), m.name(), tuple, p, q)
		}
	}
	// all but some letters are free
	for left := range 5 {
		for last := range 26 {
			letters := alphabet[last:] + alphabet[:last]
			p := chain(letters[:26-left])
			checkCodes(t, letters[:1], letters[1:2], letters[25:], letters[3:5], p, "0")
			checkCodes(t, letters[2:3], letters[25:], letters[:1], letters[24:], p, "0")
			checkCodes(t, letters[25:], letters[:1], letters[2:3], letters[:2], "0", p)
			checkCodes(t, letters[:1], letters[:1], letters[:1], letters[24:25], chain(letters[:12]), chain(letters[11:26-left]))
		}
	}
}

// TestAnyArgumentsOfChapter7 calls the functions with texts of all kinds: none may panic, and a call that fails returns zero values.
func TestAnyArgumentsOfChapter7(t *testing.T) {
	texts := slices.Concat(noProcesses(), notSimple(), beyondLimits(), noNames(), noTuples(), []string{"0", "a", "b", "x", "aa", "abc", "zyxw", "a!b.0", "#x.x!x.0", example, letters26, alphabet})
	for i, one := range texts {
		other := texts[(i*7+3)%len(texts)]
		for _, a := range []string{"a", "x", one, other} {
			for _, names := range []string{"bc", "a", one, other} {
				checkCodes(t, a, "b", one, names, "a!x.0", one)
				checkCodes(t, a, one, other, names, one, "0")
				checkCodes(t, "c", a, "c", names, other, one)
			}
			stuck, okStuck := impl.StuckFrom(one)
			if list, ok := impl.OutcomesOf(one); ok != okStuck || (len(list) > 0) != (len(stuck) > 0) {
				t.Errorf("OutcomesOf(%.40q): %q %v", one, list, ok)
			}
			simple, _ := impl.IsSimple(one)
			if is, ok := impl.TruthOf(one, a); is && !ok || ok && (!simple || !isNameText(a)) {
				t.Errorf("TruthOf(%.40q, %.20q): %v %v", one, a, is, ok)
			}
		}
	}
}

// stepsAlone follows a process for so many steps, in each of which it has one reduction alone, to the normal form behind. It fails if some step fails.
func stepsAlone(t *testing.T, p string, steps int) (string, bool) {
	t.Helper()
	for range steps {
		list, ok := impl.ReductionsOf(p)
		if !ok {
			return "", false
		}
		if len(list) != 1 {
			t.Fatal("not one reduction alone:", p, list)
		}
		p = list[0]
	}
	return p, true
}

// named returns a process with names in place of free letters, all at once. It fails if no letter is left.
func named(p, letters, names string) (string, bool) {
	between := ""
	for i := range letters {
		free, _ := impl.FreeNames(p)
		letter, ok := impl.FreshName(free + letters + names + between)
		if !ok {
			return "", false
		}
		p = renamed(p, letters[i:i+1], letter)
		between += letter
	}
	for i := range letters {
		p = renamed(p, between[i:i+1], names[i:i+1])
	}
	return p, true
}

// TestTuplesArriveWhole sends a tuple to a process that receives one: behind a step for the link and one for each letter, each of which alone can be taken, both go on, the second one with the names that were sent.
func TestTuplesArriveWhole(t *testing.T) {
	m := maker{state: 71, names: "abcde"}
	arrived := map[int]int{}
	for i := range 3000 {
		n := 1 + i%4
		a, letters, names := m.name(), "", ""
		for len(letters) < n {
			letter := m.letter("abcdexyz")
			if !strings.Contains(letters, letter) {
				letters += letter
			}
		}
		for range n {
			names += m.name()
		}
		p, q := m.simple(1+m.below(8)), m.simple(1+m.below(12))
		sends, receives := sendTuple(a, names, p), takeTuple(a, letters, q)
		behind, ok := stepsAlone(t, sideBySide(sends, receives), n+1)
		with, okNamed := named(q, letters, names)
		if !ok || !okNamed {
			continue
		}
		if want, ok := impl.JoinProcesses(p, with); behind != want || !ok {
			t.Fatal(sends, receives, "come to", behind, "not", want)
		}
		arrived[n]++
	}
	for n := range 4 {
		if arrived[n+1] < 600 {
			t.Error("few arrive of", n+1, "letters:", arrived[n+1])
		}
	}
}

// TestTuplesAreNotMixed has two that send and two that receive over one name: each of these gets all letters of one tuple, and goes on if they are the same.
func TestTuplesAreNotMixed(t *testing.T) {
	same := []string{"", "w!w.0", "[w=x]w!w.0", "[w=x][x=y]w!w.0", "[w=x][x=y][y=z]w!w.0"}
	for n := 1; n <= impl.MaxTuple; n++ {
		one, other := sendTuple("a", strings.Repeat("b", n), "0"), sendTuple("a", strings.Repeat("c", n), "0")
		takes := takeTuple("a", "wxyz"[:n], same[n])
		checkOutcomes(t, sideBySide(one, other, takes, takes), "bc")
		checkOutcomes(t, sideBySide(one, takes, takes), "b")
		checkOutcomes(t, sideBySide(one, other, takes), "ab", "ac")
	}
}

// pairsOfProcesses returns some that may stand behind codings.
func pairsOfProcesses() [][2]string {
	var out [][2]string
	for _, names := range []string{"ab", "abc", "abxyz"} {
		m := maker{state: 19 * uint64(len(names)), names: names}
		for i := range 500 {
			out = append(out, [2]string{m.simple(1 + i%9), m.simple(1 + m.below(7))})
		}
	}
	return out
}

// TestTestsAskAndGoOn has truth values that answer once: behind four steps, each of which alone can be taken, one side is there, and the other one waits for ever.
func TestTestsAskAndGoOn(t *testing.T) {
	found := 0
	for _, pair := range pairsOfProcesses() {
		p, q := pair[0], pair[1]
		for _, value := range []bool{true, false} {
			behind, ok := stepsAlone(t, sideBySide(test("a", p, q), truth("a", value)[1:]), 4)
			if !ok {
				continue
			}
			goesOn, waits := p, q
			if !value {
				goesOn, waits = q, p
			}
			s := freshFor(waits)
			z := freshFor(waits, s+"!a.0")
			if want, ok := impl.JoinProcesses(goesOn, "#"+s+"."+s+"?"+z+"."+waits); behind != want || !ok {
				t.Fatal(p, q, value, "come to", behind, "not", want)
			}
			found++
		}
	}
	if found < 2000 {
		t.Error("few:", found)
	}
}

// TestCellsAndForwardersStep compares what is behind their step with what they are for.
func TestCellsAndForwardersStep(t *testing.T) {
	found := 0
	check := func(p, want string) {
		t.Helper()
		behind, ok := stepsAlone(t, p, 1)
		normal, okWant := impl.NormalForm(want)
		if !ok || !okWant {
			return
		}
		if behind != normal {
			t.Fatal(p, "comes to", behind, "not", normal)
		}
		found++
	}
	for i, pair := range pairsOfProcesses() {
		a, v, u := "abx"[i%3:i%3+1], "bcxya"[i%5:i%5+1], "aby"[i%3:i%3+1]
		for _, x := range []string{"b", "y", "z"} {
			if with, ok := named(pair[0], x, v); x != a && ok {
				check(sideBySide(cell(a, v), readCell(a, x, pair[0])), sideBySide(cell(a, v), with))
			}
		}
		check(sideBySide(cell(a, u), writeCell(a, v, pair[0])), sideBySide(cell(a, v), pair[0]))
		to := "cdez"[i%4 : i%4+1]
		check(sideBySide(forward(a, to), a+"!"+v+"."+pair[0]), sideBySide(forward(a, to), to+"!"+v+".0", pair[0]))
	}
	if found < 6000 {
		t.Error("few:", found)
	}
}

// TestChoicesStep has the reductions to one side, with the other one waiting for ever.
func TestChoicesStep(t *testing.T) {
	several := 0
	for _, pair := range pairsOfProcesses() {
		p, q := pair[0], pair[1]
		s := freshFor(p, q)
		z := freshFor(p, q, s+"!s.0")
		var wanted []string
		for _, sides := range [][2]string{{p, q}, {q, p}} {
			wanted = append(wanted, "("+sides[0]+"&#"+s+"."+s+"?"+z+"."+sides[1]+")")
		}
		want, ok := normalFormsOf(wanted)
		list, okList := impl.ReductionsOf(choose(p, q))
		if ok != okList || !slices.Equal(list, want) {
			t.Fatal(p, q, list, okList, "not", want)
		}
		if len(list) > 1 {
			several++
		}
	}
	if several < 800 {
		t.Error("few have both:", several)
	}
}

// TestOutcomesBySigns compares with what is found sign by sign.
func TestOutcomesBySigns(t *testing.T) {
	counts := map[int]int{}
	failed := 0
	processes := simpleProcesses()
	m := maker{state: 61, names: "abcd"}
	for i := range 600 {
		p := "~." + m.soup(1+m.below(2), 6)
		for range 1 + i%3 {
			p = "(~." + m.soup(1+m.below(2), 6) + "+" + p + ")"
		}
		processes = append(processes, p)
	}
	for _, p := range processes {
		r, ok, known := newRuns(p)
		if !known {
			continue
		}
		list, okList := impl.OutcomesOf(p)
		if okList != ok {
			t.Fatal(p, list, okList)
		}
		if !ok {
			failed++
			continue
		}
		want := outcomesBySigns(r)
		if !slices.Equal(list, want) {
			t.Fatal(p, "has", list, "not", want)
		}
		counts[len(want)]++
	}
	if failed < 30 || counts[0] < 20 || counts[1] < 1000 || counts[2] < 100 || counts[3] < 10 {
		t.Error("few of a kind:", failed, counts)
	}
}

// outcomesBySigns returns the texts of names over which those that are stuck send.
func outcomesBySigns(r runsBySigns) []string {
	found := map[string]bool{}
	for _, p := range r.stuck() {
		found[offeredBySigns(p, "!#")] = true
	}
	return slices.Sorted(maps.Keys(found))
}

// truthBySigns asks with the last letters that are left, and follows what comes sign by sign.
func truthBySigns(p, a string) (told string, known bool) {
	free, _ := impl.FreeNames(p)
	letters := lettersWithout(free + a)
	from := len(letters) - 5
	yes, no := letters[from:from+1], letters[from+1:from+2]
	asks := strings.NewReplacer("A", a, "F", yes, "G", no, "W", letters[from+2:from+3], "X", letters[from+3:from+4], "Y", letters[from+4:]).Replace("#X.#Y.(#W.A!W.W!X.W!Y.0&(X?W.F!F.0&Y?W.G!G.0))")
	r, ok, known := newRuns("(" + asks + "&" + p + ")")
	if !ok {
		return "-", known
	}
	outcomes := outcomesBySigns(r)
	has := func(name, without string) bool {
		return len(outcomes) > 0 && !slices.ContainsFunc(outcomes, func(outcome string) bool {
			return !strings.Contains(outcome, name) || strings.Contains(outcome, without)
		})
	}
	switch {
	case has(yes, no):
		return "yes", true
	case has(no, yes):
		return "no", true
	}
	return "-", true
}

// TestTruthsBySigns has processes that do anything with the names that they receive.
func TestTruthsBySigns(t *testing.T) {
	counts := map[string]int{}
	for i, heads := range []string{"a?w.w?x.w?y.", "*a?w.w?x.w?y.", "a?w.w?x.", "~.a?w.w?x.w?y.", "(b!b.0&~.a?w.w?x.w?y.", ""} {
		m := maker{state: 83 + uint64(i), names: []string{"xy", "axyb", "xyyb"}[i%3]}
		for j := range 600 {
			p := heads + m.simple(2+j%7) + strings.Repeat(")", strings.Count(heads, "("))
			if j%3 == 0 {
				p = heads + m.guarded(2+j%5) + strings.Repeat(")", strings.Count(heads, "("))
			}
			told, known := truthBySigns(p, "a")
			if !known {
				continue
			}
			checkTruth(t, p, "a", told)
			counts[told]++
		}
	}
	if t.Failed() || counts["yes"] < 100 || counts["no"] < 100 || counts["-"] < 500 {
		t.Error("few of a kind:", counts)
	}
}

// circuit makes a truth value at a name from others, each at a letter of its own, with at most one that joins; it returns what it tells.
func (m *maker) circuit(a string, left *string, joins *bool, depth int) (string, bool) {
	next := func() string {
		letter := (*left)[:1]
		*left = (*left)[1:]
		return letter
	}
	kind := m.below(6)
	switch {
	case depth == 0 || kind == 0:
		value := m.below(2) == 0
		return truth(a, value)[m.below(2):], value
	case kind < 3:
		b := next()
		p, value := m.circuit(b, left, joins, depth-1)
		return sideBySide(not(a, b), p), !value
	case kind < 5 && !*joins:
		*joins = true
		b, c := next(), next()
		p, one := m.circuit(b, left, joins, depth-1)
		q, other := m.circuit(c, left, joins, depth-1)
		return sideBySide(and(a, b, c), p, q), one && other
	}
	b := next()
	p, value := m.circuit(b, left, joins, depth-1)
	return sideBySide(forward(a, b), p), value
}

// TestCircuits asks what is turned, joined and forwarded, in any order.
func TestCircuits(t *testing.T) {
	m := maker{state: 97}
	asked, joined := 0, 0
	for i := range 1500 {
		left, joins := "bcdefghijklmn", false
		p, value := m.circuit("a", &left, &joins, 1+i%3)
		is, ok := impl.TruthOf(p, "a")
		if ok && is != value {
			t.Fatal(p, "is not", value)
		}
		list, okList := impl.OutcomesOf("(" + p + "&" + sendTuple("a", "yz", "0") + ")")
		if okList && !slices.Equal(list, []string{map[bool]string{true: "y", false: "z"}[value]}) {
			t.Fatal(p, list)
		}
		if ok {
			asked++
		}
		if okList && joins {
			joined++
		}
		if !joins && (!ok || !okList) {
			t.Fatal(p, "does not answer")
		}
	}
	if asked < 400 || joined < 100 {
		t.Error("few answer:", asked, joined)
	}
}
