package tests

import (
	"regexp"
	"strings"
	"testing"

	"loop.example/g01175/impl"
)

// noFormulas has texts that are no formula.
func noFormulas() []string {
	out := []string{
		"", " ", "0", "t", "F", "TT", "T!", "!", "!!", "T ", " T", "T\n", "T\x00", "\x00", "\xff", "é", "Ｔ",
		"(T)", "()", "(T&T", "T&T", "T&T)", "(T&)", "(&T)", "(T&T&T)", "(T+T)", "(T&&T)", "((T&T)", "(T&T))", "(T&T)T", "(T&!)", "(!&T)", "(TT)", "[T&T]", "(0&T)", "(T&0)",
		"<>T", "<~>", "<~T", "~>T", "<~", "<", ">", "<T>T", "<~>>T", "<<~>T", "<<~>>T", "<~><", "<~>T>", "<~>~", "<~>0", "<~>TT", "<~>(T&T", "<a>T", "<a!b>", "<a!bT", "<a!b T", "<a!b>0", "[~]T", "~T", "~.T", "a!b.T",
		strings.Repeat("!", 400) + "T", strings.Repeat("!", 400), strings.Repeat("!", 1000000) + "T", strings.Repeat("<~>", 133),
		strings.Repeat("(", 400), strings.Repeat("(", 1000000), strings.Repeat("<", 400), strings.Repeat("<~>", 1000000) + "T", strings.Repeat("T", 400),
	}
	for _, label := range noLabels() {
		out = append(out, "<"+label+">T")
	}
	return out
}

func TestFormulas(t *testing.T) {
	for _, c := range []struct {
		text  string
		depth int
	}{
		{"T", 0}, {"!T", 0}, {"!!T", 0}, {"(T&T)", 0}, {"(!T&(T&T))", 0}, {"((T&T)&!(T&!T))", 0},
		{"<~>T", 1}, {"<a!b>T", 1}, {"<z!z>T", 1}, {"<a!#b>T", 1}, {"<a!#a>T", 1}, {"<a?b>T", 1}, {"!<~>T", 1}, {"<~>!T", 1}, {"<~>(T&T)", 1},
		{"<~><~>T", 2}, {"<~>!<a?b>T", 2}, {"(<~>T&<~>T)", 1}, {"(<~>T&T)", 1}, {"(T&<~>T)", 1}, {"(<~><~>T&<~>T)", 2}, {"(<~>T&<~><~>T)", 2},
		{"<a!b>(<~>T&(!<a?b><a!#c>T&T))", 3}, {"!(!<~>!(T&<~>T)&<~>!<~><~>T)", 3},
	} {
		if n, ok := impl.DepthOfFormula(c.text); n != c.depth || !ok || !impl.IsFormula(c.text) {
			t.Error(c.text, n, ok)
		}
	}
	for _, text := range noFormulas() {
		if impl.IsFormula(text) {
			t.Errorf("a formula: %.40q", text)
		}
		if n, ok := impl.DepthOfFormula(text); n != 0 || ok {
			t.Errorf("%.40q has the depth %d %v", text, n, ok)
		}
		for _, p := range []string{"0", "~.0", "a!b.0", "(a!b.0+~.0)"} {
			if is, ok := impl.Satisfies(p, text); is || ok {
				t.Errorf("%s satisfies %.40q: %v %v", p, text, is, ok)
			}
		}
	}
}

// TestMaxFormula has formulas of 400 bytes, and of 401.
func TestMaxFormula(t *testing.T) {
	for _, c := range []struct {
		text  string
		depth int
		holds bool // for 0
	}{
		{strings.Repeat("!", 399) + "T", 0, false},
		{strings.Repeat("<~>", 133) + "T", 133, false},
		{"!!!" + strings.Repeat("<a!#b>", 66) + "T", 66, true},
		{"!!!" + strings.Repeat("(T&", 99) + "T" + strings.Repeat(")", 99), 0, false},
		{"!!!" + strings.Repeat("(", 99) + "T" + strings.Repeat("&T)", 99), 0, false},
	} {
		if n, ok := impl.DepthOfFormula(c.text); n != c.depth || !ok || !impl.IsFormula(c.text) || len(c.text) != impl.MaxFormula {
			t.Error(c.text, n, ok, len(c.text))
		}
		if is, ok := impl.Satisfies("0", c.text); is != c.holds || !ok {
			t.Error("0", c.text, is, ok)
		}
		longer := "!" + c.text
		if is, ok := impl.Satisfies("0", longer); is || ok || impl.IsFormula(longer) {
			t.Error("more bytes than MaxFormula:", longer, is, ok)
		}
		if n, ok := impl.DepthOfFormula(longer); n != 0 || ok {
			t.Error("more bytes than MaxFormula:", longer, n, ok)
		}
	}
}

// isFormulaByRules puts T in the place of each formula that is made of T, until there are no more.
func isFormulaByRules(text string) bool {
	made := regexp.MustCompile(`!T|\(T&T\)|<(~|[a-z]!#?[a-z]|[a-z]\?[a-z])>T`)
	whole := text
	for made.MatchString(whole) {
		whole = made.ReplaceAllString(whole, "T")
	}
	return whole == "T" && len(text) <= impl.MaxFormula
}

// TestShortFormulas tries all texts of at most five of some bytes.
func TestShortFormulas(t *testing.T) {
	found := 0
	list := []string{""}
	for n := range 6 {
		var longer []string
		for _, text := range list {
			is := impl.IsFormula(text)
			if is != isFormulaByRules(text) {
				t.Fatalf("%q %v", text, is)
			}
			if is {
				found++
			}
			for _, c := range "T!(&)<~>a" {
				if n < 5 {
					longer = append(longer, text+string(c))
				}
			}
		}
		list = longer
	}
	if found != 9 { // T with up to four !, and <~>T, !<~>T, <~>!T, (T&T)
		t.Error(found, "formulas")
	}
}

// formula makes one with at most n labels, over some names.
func (m *maker) formula(n int) string {
	switch kind := m.below(7); {
	case n == 0 || kind == 0:
		return "T"
	case kind == 1:
		return "!" + m.formula(n)
	case kind == 2:
		k := m.below(n + 1)
		return "(" + m.formula(k) + "&" + m.formula(n-k) + ")"
	}
	label := "~"
	if between := []string{"!", "!#", "?", "~"}[m.below(4)]; between != "~" {
		label = m.name() + between + m.name()
	}
	return "<" + label + ">" + m.formula(n-1)
}

// TestChangedFormulas changes formulas by a byte.
func TestChangedFormulas(t *testing.T) {
	m := maker{state: 59, names: "abz"}
	yes, no := 0, 0
	for i := range 4000 {
		text := m.formula(1 + i%9)
		if !impl.IsFormula(text) || !isFormulaByRules(text) {
			t.Fatal("no formula:", text)
		}
		at := m.below(len(text))
		c := "T!(&)<~>a#?"[m.below(11)]
		for _, changed := range []string{text[:at] + text[at+1:], text[:at] + string(c) + text[at:], text[:at] + string(c) + text[at+1:]} {
			is := impl.IsFormula(changed)
			if is != isFormulaByRules(changed) {
				t.Fatalf("%q %v", changed, is)
			}
			if is {
				yes++
			} else {
				no++
			}
		}
	}
	if yes < 500 || no < 5000 {
		t.Error("few that are formulas, or few that are none:", yes, no)
	}
}

func TestSatisfied(t *testing.T) {
	for _, c := range []struct {
		p, formula string
		want       bool
	}{
		// the examples
		{"(a!b.0+~.0)", "<~>T", true},
		{"a!b.0", "<~>T", false},
		{"0", "!<~>T", true},
		{"~.0", "!<~>T", false},
		// without labels
		{"0", "T", true},
		{"a!b.0", "!T", false},
		{"0", "!!T", true},
		{"0", "(T&T)", true},
		{"0", "(T&!T)", false},
		{"0", "(!T&T)", false},
		{"0", "(!T&!T)", false},
		{"0", "!(T&!T)", true},
		// the label of the step alone
		{"a!b.0", "<a!b>T", true},
		{"a!b.0", "<a!c>T", false},
		{"a!b.0", "<b!a>T", false},
		{"a!b.0", "<a?b>T", false},
		{"a!b.0", "<a!#b>T", false},
		{"a!b.0", "<a!#c>T", false},
		{"a?x.0", "<a?a>T", true},
		{"a?x.0", "<a?z>T", true},
		{"a?x.0", "<b?a>T", false},
		{"a?x.0", "<a!x>T", false},
		{"#a.a!b.0", "<a!b>T", false},
		{"#a.a?x.0", "<a?b>T", false},
		{"[a=b]~.0", "<~>T", false},
		{"[a=a]~.0", "<~>T", true},
		{"(a!b.0&a?x.0)", "(<~>T&(<a!b>T&<a?c>T))", true},
		// what is behind it
		{"~.0", "<~>!<~>T", true},
		{"~.0", "<~><~>T", false},
		{"~.~.0", "<~><~>T", true},
		{"~.~.0", "<~>!<~>T", false},
		{"a?x.x!b.0", "<a?z><z!b>T", true},
		{"a?x.x!b.0", "<a?b><b!b>T", true},
		{"a?x.x!b.0", "<a?a><b!b>T", false},
		{"a?x.x!b.0", "!<a?a><b!b>T", true},
		{"a?x.[x=b]~.0", "<a?b><~>T", true},
		{"a?x.[x=b]~.0", "<a?c><~>T", false},
		// some result does
		{"(~.a!b.0+~.0)", "<~><a!b>T", true},
		{"(~.a!b.0+~.0)", "<~>!<a!b>T", true},
		{"(~.a!b.0+~.0)", "(<~><a!b>T&<~>!<a!b>T)", true},
		{"(~.a!b.0+~.0)", "<~>(<a!b>T&!<a!b>T)", false},
		{"(~.a!b.0+~.0)", "!<~>!<a!b>T", false},
		{"(~.a!b.0+~.b!b.0)", "<~>(<a!b>T&<b!b>T)", false},
		{"(~.a!b.0&~.b!b.0)", "<~><~>(<a!b>T&<b!b>T)", true},
		// names of their own
		{"#x.a!x.0", "<a!#b>T", true},
		{"#x.a!x.0", "<a!#z>T", true},
		{"#x.a!x.0", "<a!b>T", false},
		{"#x.a!x.0", "<a!x>T", false},
		{"#x.a!x.x!b.0", "<a!#c><c!b>T", true},
		{"#x.a!x.x!b.0", "<a!#z><z!b>T", true},
		{"#x.a!x.x!b.0", "<a!#z><c!b>T", false},
		// that cannot be sent as one that is free in the normal form
		{"#x.a!x.0", "<a!#a>T", false},
		{"#x.a!x.x!b.0", "<a!#b>T", false},
		{"#x.a!x.x!b.0", "!<a!#b>T", true},
		{"#x.a!x.x!b.0", "!<a!#a>T", true},
		{"a!b.0", "!<c!#b>T", true},
		{"([b=c]~.0&#x.a!x.0)", "<a!#b>T", false},
		{"([b=c]0&#x.a!x.0)", "<a!#b>T", true},
		{"a!b.#x.a!x.0", "<a!b><a!#b>T", true},
		{"a?x.#y.a!y.x!y.0", "<a?b><a!#b>T", false},
		{"a?x.#y.a!y.x!y.0", "<a?b><a!#c><b!c>T", true},
		{"a?x.#y.a!y.x!y.0", "<a?c><a!#b><c!b>T", true},
		{"#x.a!x.#y.a!y.x!y.0", "<a!#b><a!#b>T", false},
		{"#x.a!x.#y.a!y.x!y.0", "<a!#b><a!#c><b!c>T", true},
		{"#x.#y.(a!x.0&a!y.x!y.0)", "<a!#b><a!#b>T", false},
		{"(#x.a!x.0&#y.a!y.0)", "<a!#b><a!#b>T", true},
	} {
		for range 2 {
			if is, ok := impl.Satisfies(c.p, c.formula); is != c.want || !ok {
				t.Error(c.p, c.formula, is, ok)
			}
		}
	}
}
