package tests

import (
	"strings"
	"testing"

	"loop.example/g01175/impl"
)

// checkText returns a check of a result that is the wanted text; if none is wanted, the call has to fail.
func checkText(t *testing.T, want string, call ...string) func(string, bool) {
	return func(text string, ok bool) {
		t.Helper()
		if text != want || ok != (want != "") {
			t.Errorf("%.80q: %q %v, not %q", call, text, ok, want)
		}
		if ok && !impl.IsProcess(text) {
			t.Errorf("%.80q: %q is no process", call, text)
		}
	}
}

// coding is a call for a name, a tuple and a process, and what it returns.
type coding struct{ a, names, p, want string }

func TestSendTuple(t *testing.T) {
	for _, c := range []coding{
		{"a", "bc", "0", "#d.a!d.d!b.d!c.0"}, // the example
		// of 1 to MaxTuple letters
		{"a", "b", "0", "#c.a!c.c!b.0"},
		{"a", "bcd", "0", "#e.a!e.e!b.e!c.e!d.0"},
		{"a", "bcde", "0", "#f.a!f.f!b.f!c.f!d.f!e.0"},
		{"e", "dcba", "0", "#f.e!f.f!d.f!c.f!b.f!a.0"},
		// with one letter twice
		{"a", "bb", "0", "#c.a!c.c!b.c!b.0"},
		{"a", "bcb", "0", "#d.a!d.d!b.d!c.d!b.0"},
		{"a", "bccb", "0", "#d.a!d.d!b.d!c.d!c.d!b.0"},
		{"a", "cccc", "0", "#b.a!b.b!c.b!c.b!c.b!c.0"},
		// with the name over which it is sent
		{"a", "a", "0", "#b.a!b.b!a.0"},
		{"a", "ab", "0", "#c.a!c.c!a.c!b.0"},
		{"b", "ab", "0", "#c.b!c.c!a.c!b.0"},
		{"b", "bbbb", "0", "#a.b!a.a!b.a!b.a!b.a!b.0"},
		// the first letter is any
		{"z", "yx", "0", "#a.z!a.a!y.a!x.0"},
		{"a", "cd", "0", "#b.a!b.b!c.b!d.0"},
		{"b", "ad", "0", "#c.b!c.c!a.c!d.0"},
		// and none that is free behind
		{"a", "b", "c!d.0", "#e.a!e.e!b.c!d.0"},
		{"a", "b", "d!c.0", "#e.a!e.e!b.d!c.0"},
		{"a", "b", "[c=d]0", "#e.a!e.e!b.[c=d]0"},
		{"a", "b", "c?d.e!d.0", "#d.a!d.d!b.c?d.e!d.0"},
		{"a", "b", "#c.c!c.0", "#c.a!c.c!b.#c.c!c.0"},
		{"a", "b", "(#c.c!c.0&c!c.0)", "#d.a!d.d!b.(#c.c!c.0&c!c.0)"},
		{"a", "b", "~.(0+c?x.0)", "#d.a!d.d!b.~.(0+c?x.0)"},
		{"a", "b", "b?c.a!c.0", "#c.a!c.c!b.b?c.a!c.0"},
		{"c", "d", "a!b.0", "#e.c!e.e!d.a!b.0"},
		// any process, as it is
		{"a", "b", "*~.(#c.0+(0&0))", "#c.a!c.c!b.*~.(#c.0+(0&0))"},
		{"a", "b", "(0&[a=a]0)", "#c.a!c.c!b.(0&[a=a]0)"},
		// one letter is left
		{"a", "b", letters25, "#z.a!z.z!b." + letters25},
		{"a", "y", letters24, "#z.a!z.z!y." + letters24},
		{"z", "ab", letters24, "#y.z!y.y!a.y!b." + letters24},
		{"m", "azya", "b!c.d!e.f!g.h!i.j!k.l!n.o!p.q!r.s!t.u!v.x!x.0", "#w.m!w.w!a.w!z.w!y.w!a.b!c.d!e.f!g.h!i.j!k.l!n.o!p.q!r.s!t.u!v.x!x.0"},
		// none is left
		{"a", "b", letters26, ""},
		{"a", "z", letters25, ""},
		{"z", "a", letters25, ""},
		{"y", "az", letters24, ""},
		{"a", "yz", letters24, ""},
	} {
		checkText(t, c.want, "SendTuple", c.a, c.names, c.p)(impl.SendTuple(c.a, c.names, c.p))
	}
}

func TestReceiveTuple(t *testing.T) {
	for _, c := range []coding{
		{"a", "bc", "0", "a?d.d?b.d?c.0"},
		// of 1 to MaxTuple letters
		{"a", "b", "0", "a?c.c?b.0"},
		{"a", "bcd", "0", "a?e.e?b.e?c.e?d.0"},
		{"a", "bcde", "0", "a?f.f?b.f?c.f?d.f?e.0"},
		{"e", "dcba", "0", "e?f.f?d.f?c.f?b.f?a.0"},
		// whose letters must differ
		{"a", "bb", "0", ""},
		{"a", "aa", "0", ""},
		{"a", "bbc", "0", ""},
		{"a", "bcb", "0", ""},
		{"a", "cbb", "0", ""},
		{"a", "bcdb", "0", ""},
		{"a", "bccd", "0", ""},
		{"a", "bcdd", "0", ""},
		{"a", "cdcd", "0", ""},
		{"a", "bbbb", "0", ""},
		// with the name over which it is received
		{"a", "a", "0", "a?b.b?a.0"},
		{"a", "ab", "0", "a?c.c?a.c?b.0"},
		{"a", "ba", "a!b.0", "a?c.c?b.c?a.a!b.0"},
		// the first letter is any
		{"z", "yx", "0", "z?a.a?y.a?x.0"},
		{"b", "ad", "0", "b?c.c?a.c?d.0"},
		// and none that is free behind, be it received or not
		{"a", "bc", "b!c.0", "a?d.d?b.d?c.b!c.0"},
		{"a", "bc", "d!b.0", "a?e.e?b.e?c.d!b.0"},
		{"a", "bc", "b!d.0", "a?e.e?b.e?c.b!d.0"},
		{"a", "b", "[c=d]0", "a?e.e?b.[c=d]0"},
		{"a", "b", "#c.c!d.0", "a?c.c?b.#c.c!d.0"},
		{"a", "b", "(c!c.0&c?c.0)", "a?d.d?b.(c!c.0&c?c.0)"},
		{"c", "d", "a!b.0", "c?e.e?d.a!b.0"},
		// any process, as it is
		{"a", "b", "**(#c.0+(0&0))", "a?c.c?b.**(#c.0+(0&0))"},
		// one letter is left, or none
		{"a", "b", letters25, "a?z.z?b." + letters25},
		{"a", "y", letters24, "a?z.z?y." + letters24},
		{"z", "ab", letters24, "z?y.y?a.y?b." + letters24},
		{"a", "b", letters26, ""},
		{"a", "z", letters25, ""},
		{"z", "a", letters25, ""},
		{"y", "az", letters24, ""},
		{"a", "yz", letters24, ""},
	} {
		checkText(t, c.want, "ReceiveTuple", c.a, c.names, c.p)(impl.ReceiveTuple(c.a, c.names, c.p))
	}
}

func TestTruthTexts(t *testing.T) {
	for _, c := range []struct{ a, yes, no string }{
		{"a", "*a?d.d?b.d?c.b!b.0", "*a?d.d?b.d?c.c!c.0"}, // the example
		{"b", "*b?d.d?a.d?c.a!a.0", "*b?d.d?a.d?c.c!c.0"},
		{"c", "*c?d.d?a.d?b.a!a.0", "*c?d.d?a.d?b.b!b.0"},
		{"d", "*d?c.c?a.c?b.a!a.0", "*d?c.c?a.c?b.b!b.0"},
		{"z", "*z?c.c?a.c?b.a!a.0", "*z?c.c?a.c?b.b!b.0"},
	} {
		checkText(t, c.yes, "TruthAt", c.a, "true")(impl.TruthAt(c.a, true))
		checkText(t, c.no, "TruthAt", c.a, "false")(impl.TruthAt(c.a, false))
	}
}

func TestTestTexts(t *testing.T) {
	lettersTo := func(last string) string { return chain(alphabet[:strings.Index(alphabet, last)+1]) }
	for _, c := range []struct{ a, p, q, want string }{
		{"a", "0", "0", "#b.#c.(#d.a!d.d!b.d!c.0&(b?d.0&c?d.0))"},
		{"b", "0", "0", "#a.#c.(#d.b!d.d!a.d!c.0&(a?d.0&c?d.0))"},
		{"z", "0", "0", "#a.#b.(#c.z!c.c!a.c!b.0&(a?c.0&b?c.0))"},
		// names of both processes behind; what S sends over may be one of theirs
		{"a", "b!b.0", "0", "#c.#d.(#b.a!b.b!c.b!d.0&(c?e.b!b.0&d?e.0))"},
		{"a", "0", "b!b.0", "#c.#d.(#b.a!b.b!c.b!d.0&(c?e.0&d?e.b!b.0))"},
		{"a", "b!c.0", "d!e.0", "#f.#g.(#b.a!b.b!f.b!g.0&(f?h.b!c.0&g?h.d!e.0))"},
		{"a", "c!c.0", "e!e.0", "#b.#d.(#c.a!c.c!b.c!d.0&(b?f.c!c.0&d?f.e!e.0))"},
		{"a", "d!d.0", "0", "#b.#c.(#d.a!d.d!b.d!c.0&(b?e.d!d.0&c?e.0))"},
		{"c", "a!b.0", "b!a.0", "#d.#e.(#a.c!a.a!d.a!e.0&(d?f.a!b.0&e?f.b!a.0))"},
		{"a", "a!a.0", "*a?x.0", "#b.#c.(#d.a!d.d!b.d!c.0&(b?d.a!a.0&c?d.*a?x.0))"},
		{"a", "#b.b!c.0", "b?d.0", "#d.#e.(#b.a!b.b!d.b!e.0&(d?f.#b.b!c.0&e?f.b?d.0))"},
		{"x", "y!y.0", "z!z.0", "#a.#b.(#c.x!c.c!a.c!b.0&(a?c.y!y.0&b?c.z!z.0))"},
		// three letters are left, or two
		{"a", lettersTo("w"), "0", "#x.#y.(#b.a!b.b!x.b!y.0&(x?z." + lettersTo("w") + "&y?z.0))"},
		{"a", "b!b.0", lettersTo("w"), "#x.#y.(#b.a!b.b!x.b!y.0&(x?z.b!b.0&y?z." + lettersTo("w") + "))"},
		{"w", lettersTo("v"), "0", "#x.#y.(#a.w!a.a!x.a!y.0&(x?z." + lettersTo("v") + "&y?z.0))"},
		{"a", lettersTo("x"), "0", ""},
		{"a", "0", lettersTo("x"), ""},
		{"x", lettersTo("w"), "0", ""},
		{"a", lettersTo("w"), "x!x.0", ""},
		{"a", lettersTo("z"), lettersTo("z"), ""},
	} {
		checkText(t, c.want, "TestAt", c.a, c.p, c.q)(impl.TestAt(c.a, c.p, c.q))
	}
}

func TestNotTexts(t *testing.T) {
	for _, c := range []struct{ a, b, want string }{
		{"a", "b", "*a?e.e?c.e?d.#a.b!a.a!d.a!c.0"},
		{"b", "a", "*b?e.e?c.e?d.#b.a!b.b!d.b!c.0"},
		{"a", "c", "*a?e.e?b.e?d.#a.c!a.a!d.a!b.0"},
		{"y", "z", "*y?c.c?a.c?b.#c.z!c.c!b.c!a.0"},
		{"z", "a", "*z?d.d?b.d?c.#d.a!d.d!c.d!b.0"},
		// a and b the same
		{"a", "a", "*a?d.d?b.d?c.#d.a!d.d!c.d!b.0"},
		{"b", "b", "*b?d.d?a.d?c.#d.b!d.d!c.d!a.0"},
		{"x", "x", "*x?c.c?a.c?b.#c.x!c.c!b.c!a.0"},
	} {
		checkText(t, c.want, "NotAt", c.a, c.b)(impl.NotAt(c.a, c.b))
	}
}

func TestAndTexts(t *testing.T) {
	for _, c := range []struct{ a, b, c, want string }{
		{"a", "b", "c", "*a?f.f?d.f?e.#f.(#a.b!a.a!f.a!e.0&f?g.#a.c!a.a!d.a!e.0)"},
		{"c", "b", "a", "*c?f.f?d.f?e.#f.(#a.b!a.a!f.a!e.0&f?g.#b.a!b.b!d.b!e.0)"},
		{"b", "d", "f", "*b?e.e?a.e?c.#e.(#a.d!a.a!e.a!c.0&e?g.#b.f!b.b!a.b!c.0)"},
		{"x", "y", "z", "*x?c.c?a.c?b.#c.(#a.y!a.a!c.a!b.0&c?d.#c.z!c.c!a.c!b.0)"},
		{"z", "a", "y", "*z?d.d?b.d?c.#d.(#b.a!b.b!d.b!c.0&d?e.#a.y!a.a!b.a!c.0)"},
		// two of them, or all the same
		{"a", "a", "b", "*a?e.e?c.e?d.#e.(#b.a!b.b!e.b!d.0&e?f.#a.b!a.a!c.a!d.0)"},
		{"a", "b", "a", "*a?e.e?c.e?d.#e.(#a.b!a.a!e.a!d.0&e?f.#b.a!b.b!c.b!d.0)"},
		{"a", "b", "b", "*a?e.e?c.e?d.#e.(#a.b!a.a!e.a!d.0&e?f.#a.b!a.a!c.a!d.0)"},
		{"a", "a", "a", "*a?d.d?b.d?c.#d.(#b.a!b.b!d.b!c.0&d?e.#d.a!d.d!b.d!c.0)"},
		{"d", "d", "d", "*d?c.c?a.c?b.#c.(#a.d!a.a!c.a!b.0&c?e.#c.d!c.c!a.c!b.0)"},
	} {
		checkText(t, c.want, "AndAt", c.a, c.b, c.c)(impl.AndAt(c.a, c.b, c.c))
	}
}

func TestForwardTexts(t *testing.T) {
	for _, c := range []struct{ a, b, want string }{
		{"a", "b", "*a?c.b!c.0"},
		{"b", "a", "*b?c.a!c.0"},
		{"a", "c", "*a?b.c!b.0"},
		{"c", "b", "*c?a.b!a.0"},
		{"a", "a", "*a?b.a!b.0"},
		{"z", "z", "*z?a.z!a.0"},
	} {
		checkText(t, c.want, "ForwardAt", c.a, c.b)(impl.ForwardAt(c.a, c.b))
	}
}

func TestCellTexts(t *testing.T) {
	for _, c := range []struct{ a, v, want string }{
		{"a", "b", "a!b.0"},
		{"b", "a", "b!a.0"},
		{"a", "a", "a!a.0"},
		{"z", "m", "z!m.0"},
	} {
		checkText(t, c.want, "CellAt", c.a, c.v)(impl.CellAt(c.a, c.v))
	}
	for _, c := range []coding{
		{"a", "x", "0", "a?x.(a!x.0&0)"},
		{"a", "x", "x!b.0", "a?x.(a!x.0&x!b.0)"},
		{"b", "a", "b?x.a!x.0", "b?a.(b!a.0&b?x.a!x.0)"},
		{"a", "b", "*~.(#b.0+(0&0))", "a?b.(a!b.0&*~.(#b.0+(0&0)))"},
		{"y", "z", letters26[:len(letters26)-1] + "*0", "y?z.(y!z.0&" + letters26[:len(letters26)-1] + "*0)"},
		// a and x the same
		{"a", "a", "0", ""},
		{"x", "x", "x!x.0", ""},
		{"z", "z", "a!b.0", ""},
	} {
		checkText(t, c.want, "ReadCell", c.a, c.names, c.p)(impl.ReadCell(c.a, c.names, c.p))
	}
	for _, c := range []coding{
		{"a", "v", "0", "a?b.(a!v.0&0)"},
		{"a", "b", "0", "a?c.(a!b.0&0)"},
		{"b", "a", "0", "b?c.(b!a.0&0)"},
		{"a", "a", "0", "a?b.(a!a.0&0)"},
		{"y", "y", "0", "y?a.(y!y.0&0)"},
		// names of the process behind
		{"a", "b", "c!d.0", "a?e.(a!b.0&c!d.0)"},
		{"a", "b", "d!e.0", "a?c.(a!b.0&d!e.0)"},
		{"c", "d", "[a=b]0", "c?e.(c!d.0&[a=b]0)"},
		{"a", "b", "#c.c!d.0", "a?c.(a!b.0&#c.c!d.0)"},
		{"a", "b", "(c?c.c!c.0+0)", "a?d.(a!b.0&(c?c.c!c.0+0))"},
		{"a", "b", "**(b!a.0&0)", "a?c.(a!b.0&**(b!a.0&0))"},
		// one letter is left, or none
		{"a", "b", letters25, "a?z.(a!b.0&" + letters25 + ")"},
		{"a", "y", letters24, "a?z.(a!y.0&" + letters24 + ")"},
		{"z", "a", letters24, "z?y.(z!a.0&" + letters24 + ")"},
		{"a", "b", letters26, ""},
		{"z", "b", letters25, ""},
		{"a", "z", letters25, ""},
		{"y", "z", letters24, ""},
	} {
		checkText(t, c.want, "WriteCell", c.a, c.names, c.p)(impl.WriteCell(c.a, c.names, c.p))
	}
}

func TestChoiceTexts(t *testing.T) {
	for _, c := range []struct{ p, q, want string }{
		{"0", "0", "#a.(a!a.0&(a?b.0&a?b.0))"},
		{"a!b.0", "0", "#c.(c!c.0&(c?d.a!b.0&c?d.0))"},
		{"0", "a!b.0", "#c.(c!c.0&(c?d.0&c?d.a!b.0))"},
		{"a!a.0", "b!b.0", "#c.(c!c.0&(c?d.a!a.0&c?d.b!b.0))"},
		{"a!a.0", "c!c.0", "#b.(b!b.0&(b?d.a!a.0&b?d.c!c.0))"},
		{"b!b.0", "b!b.0", "#a.(a!a.0&(a?c.b!b.0&a?c.b!b.0))"},
		{"#a.a!b.0", "c?d.a!d.0", "#d.(d!d.0&(d?e.#a.a!b.0&d?e.c?d.a!d.0))"},
		{"**0", "(0+(0&0))", "#a.(a!a.0&(a?b.**0&a?b.(0+(0&0))))"},
		// two letters are left, or one, or none
		{letters24, "0", "#y.(y!y.0&(y?z." + letters24 + "&y?z.0))"},
		{"0", letters24, "#y.(y!y.0&(y?z.0&y?z." + letters24 + "))"},
		{letters25, "0", ""},
		{"0", letters25, ""},
		{letters24, "y!y.0", ""},
		{letters26, letters26, ""},
	} {
		checkText(t, c.want, "ChoiceOf", c.p, c.q)(impl.ChoiceOf(c.p, c.q))
	}
}

// TestLargestCodings has processes behind with which a result is just still a process, and such with one sign more.
func TestLargestCodings(t *testing.T) {
	calls := map[string]struct {
		signs int // around the process
		code  func(p string) (string, bool)
	}{
		"send 1":    {3, func(p string) (string, bool) { return impl.SendTuple("a", "b", p) }},
		"send 4":    {6, func(p string) (string, bool) { return impl.SendTuple("a", "bbcd", p) }},
		"receive 1": {2, func(p string) (string, bool) { return impl.ReceiveTuple("a", "b", p) }},
		"receive 4": {5, func(p string) (string, bool) { return impl.ReceiveTuple("a", "bcda", p) }},
		"test yes":  {12, func(p string) (string, bool) { return impl.TestAt("a", p, "0") }},
		"test no":   {12, func(p string) (string, bool) { return impl.TestAt("a", "0", p) }},
		"test both": {14, func(p string) (string, bool) { return impl.TestAt("a", "~.~.0", p) }},
		"read":      {4, func(p string) (string, bool) { return impl.ReadCell("a", "x", p) }},
		"write":     {4, func(p string) (string, bool) { return impl.WriteCell("a", "b", p) }},
		"choice 1":  {8, func(p string) (string, bool) { return impl.ChoiceOf(p, "0") }},
		"choice 2":  {8, func(p string) (string, bool) { return impl.ChoiceOf("0", p) }},
		"choice 3":  {10, func(p string) (string, bool) { return impl.ChoiceOf("(0&0)", p) }},
	}
	for name, call := range calls {
		for _, head := range []string{"*", "~.", "[a=b]", "a?x.", "(0+"} { // with few bytes for each sign, and with as many as there can be
			left, behind := impl.MaxNodes-call.signs-1, "0"
			if head == "(0+" { // two signs
				left, behind = left/2, strings.Repeat("*", left%2)+"0"
			}
			p := strings.Repeat(head, left) + behind + strings.Repeat(")", strings.Count(head, "(")*left)
			text, ok := call.code(p)
			if n, _ := impl.SizeOf(text); n != impl.MaxNodes || !ok || !strings.Contains(text, p) {
				t.Error(name, p, text, ok)
			}
			for _, more := range []string{"~." + p, "[a=b]" + p, "(0&" + p + ")"} {
				if text, ok := call.code(more); text != "" || ok || !impl.IsProcess(more) {
					t.Error("one sign more:", name, more, text, ok)
				}
			}
		}
	}
	half := strings.Repeat("[a=b]", 29) + "0"
	for _, c := range [][2]string{{half, half}, {strings.Repeat("~.", 59) + "0", "0"}, {"0", strings.Repeat("[a=b]", 59) + "0"}} {
		checkText(t, "", "TestAt", c[0], c[1])(impl.TestAt("a", c[0], c[1]))
		checkText(t, "", "ChoiceOf", c[0], c[1])(impl.ChoiceOf(c[0], c[1]))
	}
}

// noTuples has texts that are no tuple.
func noTuples() []string {
	return []string{"", "abcde", "bcdef", "aaaaa", "B", "bC", "b ", " b", "b c", "b,c", "b1", "0", "b!", "bc\x00", "\xff", "b\xff", "é", "bé", "béc", "bｃ", "`", "{b", "ab\n", alphabet, strings.Repeat("b", 1000000)}
}

// codingsOf has all calls of chapter 7 that return a text, with one of their arguments left open; by the kind of that argument.
func codingsOf() map[string]map[string]func(x string) (string, bool) {
	return map[string]map[string]func(x string) (string, bool){
		"name": {
			"SendTuple":     func(x string) (string, bool) { return impl.SendTuple(x, "bc", "0") },
			"ReceiveTuple":  func(x string) (string, bool) { return impl.ReceiveTuple(x, "bc", "0") },
			"TruthAt true":  func(x string) (string, bool) { return impl.TruthAt(x, true) },
			"TruthAt false": func(x string) (string, bool) { return impl.TruthAt(x, false) },
			"TestAt":        func(x string) (string, bool) { return impl.TestAt(x, "0", "0") },
			"NotAt a":       func(x string) (string, bool) { return impl.NotAt(x, "b") },
			"NotAt b":       func(x string) (string, bool) { return impl.NotAt("a", x) },
			"NotAt both":    func(x string) (string, bool) { return impl.NotAt(x, x) },
			"AndAt a":       func(x string) (string, bool) { return impl.AndAt(x, "b", "c") },
			"AndAt b":       func(x string) (string, bool) { return impl.AndAt("a", x, "c") },
			"AndAt c":       func(x string) (string, bool) { return impl.AndAt("a", "b", x) },
			"ForwardAt a":   func(x string) (string, bool) { return impl.ForwardAt(x, "b") },
			"ForwardAt b":   func(x string) (string, bool) { return impl.ForwardAt("a", x) },
			"CellAt a":      func(x string) (string, bool) { return impl.CellAt(x, "v") },
			"CellAt v":      func(x string) (string, bool) { return impl.CellAt("a", x) },
			"ReadCell a":    func(x string) (string, bool) { return impl.ReadCell(x, "q", "0") },
			"ReadCell x":    func(x string) (string, bool) { return impl.ReadCell("q", x, "0") },
			"WriteCell a":   func(x string) (string, bool) { return impl.WriteCell(x, "v", "0") },
			"WriteCell v":   func(x string) (string, bool) { return impl.WriteCell("a", x, "0") },
		},
		"tuple": {
			"SendTuple":    func(x string) (string, bool) { return impl.SendTuple("a", x, "0") },
			"ReceiveTuple": func(x string) (string, bool) { return impl.ReceiveTuple("a", x, "0") },
		},
		"process": {
			"SendTuple":    func(x string) (string, bool) { return impl.SendTuple("a", "bc", x) },
			"ReceiveTuple": func(x string) (string, bool) { return impl.ReceiveTuple("a", "bc", x) },
			"TestAt p":     func(x string) (string, bool) { return impl.TestAt("a", x, "0") },
			"TestAt q":     func(x string) (string, bool) { return impl.TestAt("a", "0", x) },
			"ReadCell":     func(x string) (string, bool) { return impl.ReadCell("a", "x", x) },
			"WriteCell":    func(x string) (string, bool) { return impl.WriteCell("a", "v", x) },
			"ChoiceOf p":   func(x string) (string, bool) { return impl.ChoiceOf(x, "0") },
			"ChoiceOf q":   func(x string) (string, bool) { return impl.ChoiceOf("0", x) },
		},
	}
}

// TestNoArgumentsOfCodings has one argument that is invalid.
func TestNoArgumentsOfCodings(t *testing.T) {
	invalid := map[string][]string{"name": noNames(), "tuple": noTuples(), "process": noProcesses()}
	for kind, calls := range codingsOf() {
		for name, code := range calls {
			for _, x := range invalid[kind] {
				checkText(t, "", name, x)(code(x))
			}
		}
	}
	for _, a := range alphabet {
		for name, code := range codingsOf()["name"] {
			if strings.HasPrefix(name, "ReadCell") && a == 'q' {
				continue
			}
			if text, ok := code(string(a)); !impl.IsProcess(text) || !ok {
				t.Error(name, string(a), text, ok)
			}
		}
		for name, code := range codingsOf()["tuple"] {
			if text, ok := code(string(a)); !impl.IsProcess(text) || !ok {
				t.Error(name, string(a), text, ok)
			}
		}
	}
}
