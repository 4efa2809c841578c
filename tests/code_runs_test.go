package tests

import (
	"slices"
	"strings"
	"testing"

	"loop.example/g01175/impl"
)

// must returns the text of a coding that has to succeed.
func must(text string, ok bool) string {
	if !ok {
		panic("a coding fails")
	}
	return text
}

// The codings as texts, for arguments with which they succeed.
func truth(a string, value bool) string   { return must(impl.TruthAt(a, value)) }
func not(a, b string) string              { return must(impl.NotAt(a, b)) }
func and(a, b, c string) string           { return must(impl.AndAt(a, b, c)) }
func test(a, p, q string) string          { return must(impl.TestAt(a, p, q)) }
func forward(a, b string) string          { return must(impl.ForwardAt(a, b)) }
func cell(a, v string) string             { return must(impl.CellAt(a, v)) }
func readCell(a, x, p string) string      { return must(impl.ReadCell(a, x, p)) }
func writeCell(a, v, p string) string     { return must(impl.WriteCell(a, v, p)) }
func choose(p, q string) string           { return must(impl.ChoiceOf(p, q)) }
func sendTuple(a, names, p string) string { return must(impl.SendTuple(a, names, p)) }
func takeTuple(a, names, p string) string { return must(impl.ReceiveTuple(a, names, p)) }

// checkOutcomes calls OutcomesOf twice and changes what the first call returned in between.
func checkOutcomes(t *testing.T, p string, want ...string) {
	t.Helper()
	for range 2 {
		list, ok := impl.OutcomesOf(p)
		if !slices.Equal(list, want) || !ok {
			t.Errorf("%s: %q %v, not %q", p, list, ok, want)
		}
		for i := range list {
			list[i] = "changed"
		}
		_ = append(list, "more")
	}
}

func TestOutcomes(t *testing.T) {
	for _, c := range []struct {
		p    string
		want []string
	}{
		// one
		{"a!b.0", []string{"a"}},
		{"(b!a.0&(c!a.0&a!a.0))", []string{"abc"}},
		{"(a!b.0+c!d.0)", []string{"ac"}},
		{"(a!b.0&a!c.0)", []string{"a"}},
		{"~.~.a!b.0", []string{"a"}},
		{served, []string{"b"}},
		{letters26, []string{"a"}},
		// one that sends over nothing
		{"0", []string{""}},
		{"a?x.b!b.0", []string{""}},
		{"*a?x.b!x.0", []string{""}},
		{"#x.x!a.0", []string{""}},
		{"[a=b]c!c.0", []string{""}},
		{"(a!b.0&a?x.0)", []string{""}},
		// several
		{twoWays, []string{"a", "b"}},
		{"(~.a!b.0+~.c!b.0)", []string{"a", "c"}},
		{"(~.0+~.a!b.0)", []string{"", "a"}},
		{"(~.a!a.0+(~.b!b.0+~.(b!a.0&a!b.0)))", []string{"a", "ab", "b"}},
		{"(a!b.0&(a?x.c!c.0&a?x.d!d.0))", []string{"c", "d"}},
		// each once, though several processes have it
		{"(~.a!b.0+~.a!c.0)", []string{"a"}},
		{"(~.a!b.0+(~.a!c.0+(~.a!d.0+~.a!e.0)))", []string{"a"}},
		{"(~.0+~.a?x.0)", []string{""}},
		{"(~.a!b.0+(~.b!b.0+(~.a!c.0+~.b!c.0)))", []string{"a", "b"}},
		// in order, though the processes come in another one
		{"(~.#x.b!x.0+~.(a!b.0&a!b.0))", []string{"a", "b"}},
		{"(~.#x.a!x.0+(~.(b!b.0&b!b.0)+~.a!b.0))", []string{"a", "b"}},
		{"(~.#x.c!x.0+(~.(b!b.0&b!b.0)+(~.[a=b]0+~.a!b.0)))", []string{"", "a", "b", "c"}},
		// of those that are stuck alone
		{"~.(a!b.0+~.c!c.0)", []string{"c"}},
		{"(c!c.0&(~.a!b.0+~.0))", []string{"ac", "c"}},
		// none, as no run ends; or some, though not all runs end
		{endless, nil},
		{"(c!c.0&" + endless + ")", nil},
		{"(~." + endless + "+~.c!c.0)", []string{"c"}},
		{"(~.(0&" + endless + ")+0)", nil},
		{"(a!a.0&(*a?x.a!x.0&a?x.b!b.0))", []string{"b"}},
	} {
		if simple, _ := impl.IsSimple(c.p); simple {
			checkOutcomes(t, c.p, c.want...)
			continue
		}
		t.Error("not simple:", c.p)
	}
}

func TestNoOutcomes(t *testing.T) {
	chain := func(n int) string { return strings.Repeat("~.", n) }
	checkOutcomes(t, chain(59)+"0", "") // MaxReached
	checkOutcomes(t, "("+chain(5)+"a!a.0&"+chain(9)+"b!b.0)", "ab")
	more := []string{"(" + chain(7) + "a!a.0&" + chain(7) + "b!b.0)", "~.(" + chain(5) + "a!a.0&" + chain(9) + "b!b.0)", growing}
	for _, p := range slices.Concat(noProcesses(), notSimple(), beyondLimits(), more) {
		if list, ok := impl.OutcomesOf(p); len(list) != 0 || ok {
			t.Errorf("OutcomesOf(%.40q): %q %v", p, list, ok)
		}
		if is, ok := impl.TruthOf(p, "a"); is || ok {
			t.Errorf("TruthOf(%.40q): %v %v", p, is, ok)
		}
	}
}

// checkTruth checks the truth value of a process; told is yes or no, or - if there is none.
func checkTruth(t *testing.T, p, a, told string) {
	t.Helper()
	if is, ok := impl.TruthOf(p, a); is != (told == "yes") || ok != (told != "-") {
		t.Errorf("%s at %s: %v %v, not %s", p, a, is, ok, told)
	}
	if simple, _ := impl.IsSimple(p); !simple {
		t.Error("not simple:", p)
	}
}

// TestTruthsAreAsked has processes that answer over one of two names that they receive, x and y.
func TestTruthsAreAsked(t *testing.T) {
	const asked = "a?w.w?x.w?y."
	for _, c := range []struct{ p, told string }{
		{truth("a", true), "yes"},
		{truth("a", false), "no"},
		// those that answer once, at once or later
		{asked + "x!x.0", "yes"},
		{asked + "y!y.0", "no"},
		{asked + "x!y.0", "yes"},
		{asked + "y!b.0", "no"},
		{asked + "~.[b=b](0+y!b.0)", "no"},
		{"a?w.w?x.(0&x!a.w?y.0)", "yes"},
		{"~.~." + truth("a", true), "yes"},
		{"(~." + asked + "x!x.0+~.~." + asked + "x!w.0)", "yes"},
		{"(b!a.0&b?z.z?w.w?x.w?y.y!x.0)", "no"},
		{"(*a?w.b!w.0&b?w.w?x.w?y.x!x.0)", "yes"},
		{"#b.(b!b.0&(b?z." + asked + "x!x.0&b?z." + asked + "x!x.0))", "yes"},
		// more than once over the same name
		{asked + "(x!x.0&x!x.0)", "yes"},
		{asked + "y!y.y!y.0", "no"},
		{asked + "x!x.(x!a.0&x!x.~.0)", "yes"},
		// what is sent over other names does not matter
		{"(b!b.0&" + truth("a", true) + ")", "yes"},
		{"(b!b.0&(c!c.0&(d!d.0&" + truth("a", false) + ")))", "no"},
		{asked + "(x!x.0&(~.b!b.0+~.c!c.0))", "yes"},
		{"((~.b!b.0+~.0)&" + truth("a", false) + ")", "no"},
		{"(a!b.0&b?w." + asked + "x!x.0)", "-"}, // it can ask itself
		// answers over both names, at once
		{asked + "(x!x.0&y!y.0)", "-"},
		{"*" + asked + "(x!x.0&y!y.0)", "-"},
		{asked + "x!x.y!y.0", "-"},
		// or over one of both
		{asked + "(x!x.0+y!y.0)", "-"},
		{asked + "(~.x!x.0+~.y!y.0)", "-"},
		{"(~." + truth("a", true)[1:] + "+~." + truth("a", false)[1:] + ")", "-"},
		{"(" + truth("a", true) + "&" + truth("a", false) + ")", "-"},
		{"(" + asked + "x!x.0&" + asked + "y!y.0)", "-"},
		{"(~." + asked + "x!x.0+~." + asked + "(x!x.0&y!y.0))", "-"},
		{"(~." + asked + "y!y.0+~." + asked + "(x!x.0&y!y.0))", "-"},
		// or over none, always or in some run
		{"0", "-"},
		{"~.0", "-"},
		{"a!b.0", "-"},
		{"a?x.0", "-"},
		{asked + "0", "-"},
		{asked + "a!x.0", "-"},
		{asked + "w!x.0", "-"},
		{asked + "[x=y]x!x.0", "-"},
		{"a?w.w?x.x!x.0", "yes"},
		{"a?w.w?x.w?y.w?z.x!x.0", "-"},
		{truth("b", true), "-"},
		{"#a." + truth("a", true), "-"},
		{"(0+~." + truth("a", true)[1:] + ")", "yes"},
		{"(~.0+~." + asked + "x!x.0)", "-"},
		{asked + "(~.0+~.x!x.0)", "-"},
		{asked + "(~.0+~.y!y.0)", "-"},
		{"(a?z.0&" + asked + "y!y.0)", "-"},
		// runs that do not end do not count
		{endless, "-"},
		{"(" + truth("a", true) + "&(b!b.0&*b?z.b!z.0))", "-"},
		{"(" + truth("a", true) + "&(b!b.0&(b?z.0&*b?z.b!z.0)))", "yes"},
		{asked + "(~.y!y.0+~.#b.(b!b.0&*b?z.b!z.0))", "no"},
		{asked + "(x!x.0+~.#b.(b!b.0&*b?z.b!z.0))", "yes"},
	} {
		checkTruth(t, c.p, "a", c.told)
		for _, other := range "bwxyz" { // by any other name it is the same
			checkTruth(t, exchangedNames(c.p, "a", string(other)), string(other), c.told)
		}
	}
}

// sames compares each of some letters with itself.
func sames(letters string) string {
	p := "0"
	for _, letter := range letters {
		p = "[" + string(letter) + "=" + string(letter) + "]" + p
	}
	return p
}

// TestLimitsOfTruths meets limits exactly and exceeds them.
func TestLimitsOfTruths(t *testing.T) {
	const once = "a?w.w?x.w?y.y!y.0" // 5 signs
	for _, c := range []struct{ p, told string }{
		// with the test it has MaxNodes signs, or one more
		{"(" + once + "&" + strings.Repeat("b!b.", 37) + "0)", "no"},
		{"(" + once + "&" + strings.Repeat("b!b.", 38) + "0)", "-"},
		{strings.Repeat("[c=c]", 39) + once, "no"},
		{strings.Repeat("[c=c]", 40) + once, "-"}, // though the normal form has 5
		{strings.Repeat("~.", 59) + "0", "-"},
		// MaxReached: 5 by asking, each with what the others reach
		{"(" + strings.Repeat("~.", 11) + "0&" + once + ")", "no"},
		{"(" + strings.Repeat("~.", 12) + "0&" + once + ")", "-"},
		{"(~.0&(~.~.~.~.~.0&" + once + "))", "no"},
		{"(~.0&(~.~.~.~.~.~.0&" + once + "))", "-"},
		{strings.Repeat("~.", 39) + once, "no"},
		{"(" + growing + "&d?w.0)", "-"},
		// the test has 3 names of its own, with MaxFront at the front
		{"#d.#e.(d!e.0&" + once + ")", "no"},
		{"#c.#d.#e.(c!d.e!e.0&" + once + ")", "-"},
		{"(b?z.#c.#d.#e.#f.#g.c!d.e!f.g!g.0&" + once + ")", "no"},
		{"(b?z.#c.#d.#e.#f.#g.#h.c!d.e!f.g!h.0&" + once + ")", "-"},
		{"(b?z.(#c.#d.#e.c!d.e!e.0&#f.#g.#h.f!g.h!h.0)&" + once + ")", "-"},
		{"(b?z.#c.#d.#e.c!d.b?z.#f.#g.e!f.g!g.0&" + once + ")", "no"},
		{"(b?z.#c.#d.#e.c!d.b?z.#f.#g.#h.e!f.g!h.0&" + once + ")", "-"}, // 9 in all
		// 6 letters are bound within each other: 3 of the test, and 3 that receive
		{"(" + once + "&" + chain("bcdefghijklmnopqr") + ")", "no"},
		{"(" + once + "&" + chain("bcdefghijklmnopqrs") + ")", "-"},
		{"(" + once + "&" + chain("zyxwvutsrqponmlkj") + ")", "no"},
		{"(" + once + "&" + chain("zyxwvutsrqponmlkji") + ")", "-"},
		{"(" + once + "&" + chain("bcdefghijklmnopqrstuvwx") + ")", "-"},
		{"(" + once + "&" + chain("bcdefghijklmnopqrstuvwxy") + ")", "-"},
		{"(" + once + "&" + chain(alphabet[1:]) + ")", "-"},
		{letters26, "-"},
		// the names of the process are those of its text, of which two others are needed, though the normal form has less
		{"(" + once + "&[b=b][c=c]" + chain("defghijklmnopqr") + ")", "no"},
		{"(" + once + "&" + sames("bcdefghijklmnopqrstuvwx") + ")", "no"},
		{"(" + once + "&" + sames("bcdefghijklmnopqrstuvwxy") + ")", "-"},
		{"(" + once + "&" + sames(alphabet) + ")", "-"},
	} {
		checkTruth(t, c.p, "a", c.told)
	}
	for _, p := range notSimple() {
		if is, ok := impl.TruthOf("("+p+"&"+once+")", "a"); is || ok {
			t.Error("not simple:", p, is, ok)
		}
	}
	for _, a := range noNames() {
		if is, ok := impl.TruthOf(once, a); is || ok {
			t.Errorf("at %.40q: %v %v", a, is, ok)
		}
	}
	for _, a := range alphabet {
		checkTruth(t, truth(string(a), true), string(a), "yes")
		checkTruth(t, truth(string(a), false), string(a), "no")
	}
}

// toldAs has how a truth value is told.
var toldAs = map[bool]string{true: "yes", false: "no"}

func TestTurnedTruths(t *testing.T) {
	for _, value := range []bool{true, false} {
		b := truth("b", value)
		checkTruth(t, sideBySide(not("a", "b"), b), "a", toldAs[!value])
		checkTruth(t, sideBySide(not("a", "b"), b), "b", toldAs[value])
		checkTruth(t, "#b."+sideBySide(not("a", "b"), b), "a", toldAs[!value])
		checkTruth(t, sideBySide(not("a", "c"), not("c", "b"), b), "a", toldAs[value])
		checkTruth(t, sideBySide(not("a", "d"), not("d", "c"), not("c", "b"), b), "a", toldAs[!value])
		checkTruth(t, sideBySide(forward("a", "b"), b), "a", toldAs[value])
		checkTruth(t, sideBySide(forward("a", "c"), not("c", "b"), b), "a", toldAs[!value])
		checkTruth(t, sideBySide(not("a", "c"), forward("c", "b"), b), "a", toldAs[!value])
		// both at one name, none, and what asks itself
		checkTruth(t, sideBySide(not("a", "b"), b, truth("b", !value)), "a", "-")
		checkTruth(t, sideBySide(not("a", "b"), truth("c", value)), "a", "-")
		checkTruth(t, sideBySide(not("a", "b"), not("b", "a")), "a", "-")
		checkTruth(t, sideBySide(not("a", "a"), truth("a", value)), "a", "-")
		checkTruth(t, sideBySide(forward("a", "b"), forward("b", "a")), "a", "-")
		checkTruth(t, sideBySide(forward("a", "a"), truth("a", value)), "a", toldAs[value])
	}
	for _, p := range []string{not("a", "b"), not("a", "a"), and("a", "b", "c"), and("a", "a", "a"), forward("a", "b"), forward("a", "a")} {
		checkTruth(t, p, "a", "-")
	}
}

// checkAnswer asks at a with fewer names of its own than TestAt has: the answer is sent over y for true, and over z for false.
func checkAnswer(t *testing.T, told string, threads ...string) {
	t.Helper()
	p := sideBySide(append(threads, sendTuple("a", "yz", "0"))...)
	checkOutcomes(t, p, map[string][]string{"yes": {"y"}, "no": {"z"}, "both": {"y", "z"}}[told]...)
}

func TestJoinedTruths(t *testing.T) {
	for _, one := range []bool{true, false} {
		b := truth("b", one)
		checkAnswer(t, toldAs[one], and("a", "b", "b"), b)
		checkAnswer(t, "no", and("a", "b", "c"), not("c", "b"), b)
		checkAnswer(t, "no", and("a", "c", "b"), not("c", "b"), b)
		for _, other := range []bool{true, false} {
			c := truth("c", other)
			checkAnswer(t, toldAs[one && other], and("a", "b", "c"), b, c)
			checkAnswer(t, toldAs[one && other], and("a", "c", "b"), b, c)
			// larger ones have room for truth values alone that answer once
			b, c := b[1:], c[1:]
			checkAnswer(t, toldAs[!(one && other)], not("a", "d"), and("d", "b", "c"), b, c)
			checkAnswer(t, toldAs[!one && other], and("a", "d", "c"), not("d", "b"), b, c)
			checkAnswer(t, toldAs[one && !other], and("a", "b", "d"), not("d", "c"), b, c)
			checkAnswer(t, toldAs[one && other], forward("a", "d"), and("d", "b", "c"), b, c)
			// with TestAt, and what is repeated beside what has come from it, there are 9 names of their own
			checkTruth(t, sideBySide(and("a", "b", "c"), b, c), "a", "-")
		}
		// the second one is asked only if the first one is true
		asked := sideBySide(and("a", "b", "d"), b, sendTuple("a", "yz", "0"))
		checkOutcomes(t, asked, map[bool]string{true: "d", false: "z"}[one])
		asked = sideBySide(and("a", "d", "b"), b, sendTuple("a", "yz", "0"))
		checkOutcomes(t, asked, "d")
		// both at one name
		checkAnswer(t, map[bool]string{true: "both", false: "no"}[one], and("a", "b", "c"), truth("b", true), truth("b", false), truth("c", one))
		checkAnswer(t, map[bool]string{true: "both", false: "no"}[one], and("a", "c", "b"), truth("b", true), truth("b", false), truth("c", one))
	}
}

func TestTestsGoOnWithOneSide(t *testing.T) {
	once := test("a", "b!b.0", "c!c.0")
	for _, value := range []bool{true, false} {
		side := map[bool]string{true: "b", false: "c"}[value]
		checkOutcomes(t, sideBySide(once, truth("a", value)), side)
		checkOutcomes(t, sideBySide(once, not("a", "d"), truth("d", !value)), side)
		checkOutcomes(t, sideBySide(once, forward("a", "d"), truth("d", value)), side)
		checkOutcomes(t, sideBySide(once, truth("d", value)), "a")
		checkOutcomes(t, sideBySide(once, truth("a", true), truth("a", false)), "b", "c")
		checkOutcomes(t, sideBySide(test("a", "(b!b.0&d!d.0)", "(c!c.0&d!d.0)"), truth("a", value)), side+"d")
		// one that tests a second time behind one side
		checkOutcomes(t, sideBySide(test("a", test("a", "b!b.0", "d!d.0"), "c!c.0"), truth("a", value)), side)
		checkOutcomes(t, sideBySide(test("a", "b!b.0", test("a", "d!d.0", "c!c.0")), truth("a", value)), side)
		// sides with nothing
		checkOutcomes(t, sideBySide(test("a", "0", "c!c.0"), truth("a", value)), strings.Trim(side, "b"))
		checkOutcomes(t, sideBySide(test("a", "b!b.0", "0"), truth("a", value)), strings.Trim(side, "c"))
		// sides that use the name that is asked
		again := sideBySide(test("a", "a?w.b!b.0", "c!c.0"), "a?w.w?x.w?y."+map[bool]string{true: "x!x", false: "y!y"}[value]+".0")
		checkOutcomes(t, again, map[bool]string{true: "", false: "c"}[value])
	}
}

func TestCellsKeepWhatWasWrittenLast(t *testing.T) {
	first := cell("a", "b")
	reader := readCell("a", "x", "x!x.0")
	checkOutcomes(t, sideBySide(first, reader), "ab")
	checkOutcomes(t, sideBySide(first, reader, reader), "ab")
	checkOutcomes(t, sideBySide(first, writeCell("a", "c", "0")), "a")
	checkOutcomes(t, sideBySide(first, writeCell("a", "c", reader)), "ac")
	checkOutcomes(t, sideBySide(first, writeCell("a", "c", writeCell("a", "d", reader))), "ad")
	checkOutcomes(t, sideBySide(first, writeCell("a", "c", writeCell("a", "b", reader))), "ab")
	checkOutcomes(t, sideBySide(first, writeCell("a", "c", readCell("a", "x", writeCell("a", "d", "x!x.0")))), "ac")
	twice := readCell("a", "x", readCell("a", "y", "(x!x.0&y!y.0)"))
	checkOutcomes(t, sideBySide(first, writeCell("a", "c", writeCell("a", "d", twice))), "ad")
	// several side by side
	checkOutcomes(t, sideBySide(first, writeCell("a", "c", "0"), reader), "ab", "ac")
	checkOutcomes(t, sideBySide(first, writeCell("a", "c", "0"), writeCell("a", "d", reader)), "ac", "ad")
	// cells of others, and with the name of another cell
	checkOutcomes(t, sideBySide(first, cell("c", "d"), writeCell("c", "e", "0"), reader), "abc")
	checkOutcomes(t, sideBySide(cell("a", "c"), cell("c", "d"), readCell("a", "x", readCell("x", "y", "y!y.0"))), "acd")
	// in the end there is what was written last
	checkList(t, impl.StuckFrom, sideBySide(first, writeCell("a", "c", writeCell("a", "d", "0"))), "a!d.0")
	checkList(t, impl.StuckFrom, sideBySide(first, writeCell("a", "c", "0"), writeCell("a", "d", "0")), "a!c.0 a!d.0")
}

func TestChoicesGoOnWithOneSide(t *testing.T) {
	checkOutcomes(t, choose("a!b.0", "c!d.0"), "a", "c")
	checkOutcomes(t, choose("a!b.0", "0"), "", "a")
	checkOutcomes(t, choose("0", "a!b.0"), "", "a")
	checkOutcomes(t, choose("a!b.0", "a!c.0"), "a")
	checkOutcomes(t, choose("0", "0"), "")
	checkOutcomes(t, choose("a!a.0", choose("b!b.0", "c!c.0")), "a", "b", "c")
	checkOutcomes(t, choose("(a!a.0&b!b.0)", "c!c.0"), "ab", "c")
	checkOutcomes(t, choose(endless, "c!c.0"), "c")
	checkOutcomes(t, sideBySide(choose("a!b.0", "c!d.0"), "a?x.x!x.0", "c?x.x!x.0"), "b", "d")
	checkTruth(t, choose(truth("a", true), truth("a", true)), "a", "yes")
	checkTruth(t, choose(truth("a", true), truth("a", false)), "a", "-")
	checkTruth(t, choose(truth("a", false), "0"), "a", "-")
}

func TestForwardersHandOn(t *testing.T) {
	checkOutcomes(t, sideBySide("a!c.0", forward("a", "b")), "b")
	checkOutcomes(t, sideBySide("a!c.a!d.0", forward("a", "b"), "b?x.b?y.(x!x.0&y!y.0)"), "cd")
	checkOutcomes(t, sideBySide("a!c.0", forward("a", "b"), forward("b", "d")), "d")
	checkOutcomes(t, sideBySide("a!c.0", forward("a", "a")))
	checkOutcomes(t, sideBySide(sendTuple("a", "cde", "0"), forward("a", "b"), takeTuple("b", "xyz", "x!y.z!z.0")), "c")
}
