package tests

import (
	"slices"
	"strings"
	"testing"

	"loop.example/g01175/impl"
)

const scattered = "(#x.(a!x.0&0)&#y.(b?z.0+0))"

// beyondLimits has processes that have no normal form within the limits.
func beyondLimits() []string {
	return []string{
		// 6 signs # at a front
		"#a.#b.#c.#d.#e.#f.a!b.c!d.e!f.0",
		"~.#a.#b.#c.#d.#e.#f.a!b.c!d.e!f.0",
		"(~.0+#a.#b.#c.#d.#e.#f.a!b.c!d.e!f.0)",
		"*(#a.#b.#c.a!b.c!c.0&#a.#b.#c.a!b.c!c.0)",
		"#a.#b.#c.(a!b.c!c.0&[z=z]#a.#b.#c.a!b.c!c.0)",
		"#a.#b.#c.(a!b.c!c.0&(0+#a.#b.#c.a!b.c!c.0))",
		// 9 in all
		"#a.#b.#c.#d.#e.a!b.c!d.e!e.#a.#b.#c.#d.a!b.c!d.0",
		"(~.#a.#b.#c.a!b.c!c.0+(~.#a.#b.#c.a!b.c!c.0+~.#a.#b.#c.a!b.c!c.0))",
		"#a.~.#b.~.#c.~.#d.~.#e.~.#f.~.#g.~.#h.~.#i.a!b.c!d.e!f.g!h.i!i.0",
		// no letter is left
		"(a?x.0&" + letters26 + ")",
		"(#x.x!x.0&" + letters26 + ")",
		"~.(0&(*a?x.a!b.0&" + letters26 + "))",
		"(a?x.a?y.0&" + letters25 + ")",
		"(a?x.#y.y!y.0&" + letters25 + ")",
		"(" + letters25 + "&#x.x!x.#y.y!y.0)",
		strings.Repeat("a?x.", 26) + "0",
	}
}

func TestNormalForms(t *testing.T) {
	for _, c := range []struct{ p, want string }{
		{"0", "0"},
		{scattered, "#c.(a!c.0&b?d.0)"},
		// parts that are 0
		{"(0&0)", "0"},
		{"(0+0)", "0"},
		{"((0&0)+(0&(0+0)))", "0"},
		{"(a!b.0&0)", "a!b.0"},
		{"(0&a!b.0)", "a!b.0"},
		{"~.(0&(0+0))", "~.0"},
		// order and brackets
		{"(b!a.0&a!b.0)", "(a!b.0&b!a.0)"},
		{"((c!a.0&b!a.0)&(a!a.0&~.0))", "(a!a.0&(b!a.0&(c!a.0&~.0)))"},
		{"((c!a.0+b!a.0)+(a!a.0+~.0))", "(a!a.0+(b!a.0+(c!a.0+~.0)))"},
		{"(a!b.0&a!b.0)", "(a!b.0&a!b.0)"},
		{"(a!b.0+a!b.0)", "(a!b.0+a!b.0)"},
		{"(*~.0&(a!b.0&([a=b]~.0&((~.0+a!b.0)&#x.x!x.0))))", "#c.((a!b.0+~.0)&(*~.0&([a=b]~.0&(a!b.0&c!c.0))))"},
		{"a?x.(b!x.0&(a!x.0&0))", "a?c.(a!c.0&b!c.0)"},
		// sums of one
		{"(a!b.0+0)", "a!b.0"},
		{"(0+(a!b.0+0))", "a!b.0"},
		{"((a!b.0+0)+b!a.0)", "(a!b.0+b!a.0)"},
		{"((0+(b!a.0&a!b.0))&a!a.0)", "(a!a.0&(a!b.0&b!a.0))"},
		{"((0+#x.a!x.0)&a!a.0)", "#b.(a!a.0&a!b.0)"},
		{"((~.0&0)+a!b.0)", "(a!b.0+~.0)"},
		// parts of sums are levels of their own
		{"((b!a.0&a!b.0)+a!a.0)", "((a!b.0&b!a.0)+a!a.0)"},
		{"(a!a.0+#x.(~.0&a!x.0))", "(#b.(a!b.0&~.0)+a!a.0)"},
		{"#x.((a!x.0+0)&(x!a.0+b!b.0))", "#c.((b!b.0+c!a.0)&a!c.0)"},
		{"(#x.(b!b.0+a!a.0)+~.0)", "(a!a.0+(b!b.0+~.0))"},
		{"([c=c](b!b.0+a!a.0)+~.0)", "(a!a.0+(b!b.0+~.0))"},
		// names of their own
		{"#x.0", "0"},
		{"#x.a!b.0", "a!b.0"},
		{"#x.#x.a!x.0", "#b.a!b.0"},
		{"#x.a?x.x!x.0", "a?b.b!b.0"},
		{"#x.(a!b.0&#x.b!x.0)", "#c.(a!b.0&b!c.0)"},
		{"(#x.a!x.0&#x.b!x.0)", "#c.#d.(a!c.0&b!d.0)"},
		{"(#x.a!x.0&x!a.0)", "#b.(a!b.0&x!a.0)"},
		{"#x.([x=x]a!b.0&[x=a]0)", "a!b.0"},
		{"#x.*#y.[x=y](0&0)", "0"},
		{"~.#x.(~.0&a!x.0)", "~.#b.(a!b.0&~.0)"},
		{"a!b.#x.0", "a!b.0"},
		{"*#x.x!a.0", "*#b.b!a.0"},
		{"[a=b]#x.x!a.0", "[a=b]#c.c!a.0"},
		// letters
		{"b?x.0", "b?a.0"},
		{"a?a.a!a.0", "a?b.b!b.0"},
		{"a?z.a?z.(c!z.0&0)", "a?b.a?d.c!d.0"},
		{"(a?x.0&b?y.a?x.0)", "(a?c.0&b?c.a?d.0)"},
		{"([a=b]0&c?x.0)", "c?a.0"},
		{"([a=a]c?x.0&0)", "c?a.0"},
		{"#z." + letters25[:len(letters25)-1] + "z!z.0", "#z." + letters25[:len(letters25)-1] + "z!z.0"},
		{"#a.~." + letters26, "#a.~." + letters26},
		{"#x." + letters26, "#x." + letters26},
		{"(#x.~.0&" + letters26 + ")", "(" + letters26 + "&~.0)"},
		// matches and repeated ones
		{"[a=a]b!a.0", "b!a.0"},
		{"[a=b]b!a.0", "[a=b]b!a.0"},
		{"[b=a]b!a.0", "[a=b]b!a.0"},
		{"[b=a][a=b][c=c]~.0", "[a=b][a=b]~.0"},
		{"a?x.[x=a]~.0", "a?b.[a=b]~.0"},
		{"b?x.[b=x]~.0", "b?a.[a=b]~.0"},
		{"[a=b]0", "0"},
		{"[a=b][c=c]*(0&0)", "0"},
		{"*0", "0"},
		{"**0", "0"},
		{"*#a.(0+0)", "0"},
		{"**a!b.0", "**a!b.0"},
		{"([a=a](b!b.0&a!a.0)&~.0)", "(a!a.0&(b!b.0&~.0))"},
	} {
		checkNormal(t, c.p, c.want)
	}
}

func checkNormal(t *testing.T, p, want string) {
	t.Helper()
	if s, ok := impl.NormalForm(p); s != want || !ok {
		t.Error(p, s, ok)
	}
	if is, ok := impl.IsNormal(want); !is || !ok {
		t.Error("not normal:", want, is, ok)
	}
	if is, ok := impl.IsNormal(p); is != (p == want) || !ok {
		t.Error("is normal:", p, is, ok)
	}
	if is, ok := impl.AreCongruent(want, p); !is || !ok {
		t.Error("not congruent:", p, want)
	}
	if is, ok := impl.IsInert(p); is != (want == "0") || !ok {
		t.Error("inert:", p, is, ok)
	}
}

func TestLeastOrderOfNames(t *testing.T) {
	for _, c := range []struct{ p, want string }{
		{"#x.#y.x!y.0", "#a.#b.a!b.0"},
		{"#x.#y.y!x.0", "#a.#b.a!b.0"},
		{"#x.#y.(x!x.0&y!x.0)", "#a.#b.(a!a.0&b!a.0)"},
		{"#x.#y.(y!y.0&x!y.0)", "#a.#b.(a!a.0&b!a.0)"},
		{"#x.#y.#z.(z!y.0&(y!x.0&x!z.0))", "#a.#b.#c.(a!b.0&(b!c.0&c!a.0))"},
		{"#x.#y.#z.(x!y.0&(z!y.0&y!y.0))", "#a.#b.#c.(a!a.0&(b!a.0&c!a.0))"},
		{"#x.(a!x.0&#y.(y!a.0&b!y.0))", "#c.#d.(a!c.0&(b!d.0&d!a.0))"},
		// a match and a sum are put in order with the letters that they get
		{"#x.#y.([x=y]~.0&y!y.0)", "#a.#b.([a=b]~.0&a!a.0)"},
		{"#x.#y.(y!y.0+(x!y.0+[y=x]~.0))", "#a.#b.([a=b]~.0+(a!a.0+b!a.0))"},
		// levels behind other signs, with the letters around them
		{"~.#x.#y.y!x.#z.#w.w!z.0", "~.#a.#b.a!b.#c.#d.c!d.0"},
		{"#x.#y.(y!y.0&~.#z.#w.(w!w.0&z!x.0))", "#a.#b.(a!a.0&~.#c.#d.(c!b.0&d!d.0))"},
		{"#x.#y.(~.#z.#w.w!z.y!x.0&~.#v.v!y.0)", "#a.#b.(~.#c.#d.c!d.a!b.0&~.#c.c!a.0)"},
		{"#x.#y.(a?z.#w.(z!x.0&w!y.0)&y!x.0)", "#b.#c.(a?d.#e.(d!b.0&e!c.0)&c!b.0)"},
		{"*#x.#y.(a!y.0&y!x.0)", "*#b.#c.(a!b.0&b!c.0)"},
		// the least text of the whole level, not of a part
		{"#x.#y.(~.y!x.0&(a!x.0&(x!y.0&~.x!x.0)))", "#b.#c.(a!b.0&(b!c.0&(~.b!b.0&~.c!b.0)))"},
	} {
		checkNormal(t, c.p, c.want)
	}
}

// TestOrdersOfFlatLevels puts the letters of the front in all orders: in threads without levels of their own no order may make a lesser text.
func TestOrdersOfFlatLevels(t *testing.T) {
	m := maker{state: 5, names: "abcdexy"}
	for range 400 {
		p := "0"
		for range 1 + m.below(5) {
			thread := "0"
			for range 1 + m.below(3) {
				thread = m.name() + "!" + m.name() + "." + thread
			}
			p = "(" + p + "&" + thread + ")"
		}
		checkOrders(t, "#e.#b.#c.#a.#d."+p)
	}
}

func checkOrders(t *testing.T, p string) {
	t.Helper()
	front, ok := impl.FrontNames(p)
	threads, okThreads := impl.ThreadsOf(p)
	if !ok || !okThreads {
		t.Fatal("no normal form:", p)
	}
	for _, order := range ordersOf(front) {
		var pairs, changed []string
		for i := range front {
			pairs = append(pairs, front[i:i+1], order[i:i+1])
		}
		for _, thread := range threads {
			changed = append(changed, strings.NewReplacer(pairs...).Replace(thread))
		}
		slices.Sort(changed)
		if slices.Compare(changed, threads) < 0 {
			t.Fatal(p, "has", threads, "but", changed, "is less")
		}
	}
}

// ordersOf returns the texts of all orders of different letters.
func ordersOf(names string) []string {
	if names == "" {
		return []string{""}
	}
	var all []string
	for i := range names {
		for _, rest := range ordersOf(names[:i] + names[i+1:]) {
			all = append(all, names[i:i+1]+rest)
		}
	}
	return all
}

func TestCongruence(t *testing.T) {
	for _, c := range []struct {
		p, q string
		want bool
	}{
		{"0", "0", true},
		{"0", "~.0", false},
		{"a!b.0", "a!c.0", false},
		{"a?x.0", "a?y.0", true},
		{"a?x.b!x.0", "a?y.b!x.0", false},
		{"(a!b.0&b!a.0)", "(b!a.0&a!b.0)", true},
		{"(a!b.0&b!a.0)", "(b!a.0+a!b.0)", false},
		{"(a!b.0&a!b.0)", "a!b.0", false},
		{"(a!b.0+a!b.0)", "a!b.0", false},
		{"#x.(a!x.0&b!x.0)", "(#x.a!x.0&#x.b!x.0)", false},
		{"#x.(a!x.0&b!b.0)", "(#x.a!x.0&b!b.0)", true},
		{"#x.(a!x.0+b!b.0)", "(#x.a!x.0+b!b.0)", false},
		{"#x.~.a!x.0", "~.#x.a!x.0", false},
		{"#x.[a=b]a!x.0", "[a=b]#x.a!x.0", false},
		{"#x.#y.a!x.b!y.0", "#y.#x.a!x.b!y.0", true},
		{"#x.#y.(a!x.0&b!y.0)", "(#z.b!z.0&#z.a!z.0)", true},
		{"#x.a?y.x!y.0", "a?y.#x.x!y.0", false},
		{"[a=b]~.0", "[b=a]~.0", true},
		{"[a=b]~.0", "~.0", false},
		{"[a=a]~.0", "~.0", true},
		{"[a=b]0", "*0", true},
		{"*a!b.0", "(a!b.0&*a!b.0)", false},
		{"*a!b.0", "**a!b.0", false},
		{"*(a!b.0&0)", "*a!b.0", true},
		{scattered, "#z.(b?b.0&a!z.0)", true},
	} {
		for _, pair := range [][2]string{{c.p, c.q}, {c.q, c.p}} {
			if b, ok := impl.AreCongruent(pair[0], pair[1]); b != c.want || !ok {
				t.Error(pair, b, ok)
			}
		}
	}
}

func TestThreadsAndComponents(t *testing.T) {
	for _, c := range []struct{ p, front, threads, components, summands string }{
		{"0", "", "", "", ""},
		{"(#x.0+*[a=b]0)", "", "", "", ""},
		{"a!b.0", "", "a!b.0", "a!b.0", "a!b.0"},
		{scattered, "c", "a!c.0 b?d.0", "#b.a!b.0 b?a.0", "a!c.0"},
		{"(a!b.0&(b!a.0&a!b.0))", "", "a!b.0 a!b.0 b!a.0", "a!b.0 a!b.0 b!a.0", "a!b.0"},
		{"(#x.a!x.0&#x.a!x.0)", "bc", "a!b.0 a!c.0", "#b.a!b.0 #b.a!b.0", "a!b.0"},
		{"#x.(a!x.0&b?y.x!y.0)", "c", "a!c.0 b?d.c!d.0", "#c.(a!c.0&b?d.c!d.0)", "a!c.0"},
		// over others, told in any order
		{"#x.#y.#z.(a!x.0&(y!z.0&(b!z.0&x!y.0)))", "cde", "a!c.0 b!d.0 c!e.0 e!d.0", "#c.#d.#e.(a!c.0&(b!d.0&(c!e.0&e!d.0)))", "a!c.0"},
		{"#x.#y.(a!x.0&(b!y.0&(c!x.0&(d!y.0&e!e.0))))", "fg", "a!f.0 b!g.0 c!f.0 d!g.0 e!e.0", "#a.(b!a.0&d!a.0) #b.(a!b.0&c!b.0) e!e.0", "a!f.0"},
		// names that are free, or bound inside, put nothing together
		{"(a!b.0&(b!a.0&~.#x.(a!x.0&b!x.0)))", "", "a!b.0 b!a.0 ~.#c.(a!c.0&b!c.0)", "a!b.0 b!a.0 ~.#c.(a!c.0&b!c.0)", "a!b.0"},
		{"(a?x.0&b?x.0)", "", "a?c.0 b?c.0", "a?b.0 b?a.0", "a?c.0"},
		// the first thread is a sum
		{"((~.0+a!b.0)+(b!a.0+0))", "", "(a!b.0+(b!a.0+~.0))", "(a!b.0+(b!a.0+~.0))", "a!b.0 b!a.0 ~.0"},
		{"#x.((~.0+a!x.0)&b!b.0)", "c", "(a!c.0+~.0) b!b.0", "#b.(a!b.0+~.0) b!b.0", "a!c.0 ~.0"},
		{"((#x.x!x.0+(~.0&~.0))+~.0)", "", "(#a.a!a.0+((~.0&~.0)+~.0))", "(#a.a!a.0+((~.0&~.0)+~.0))", "#a.a!a.0 (~.0&~.0) ~.0"},
		{"(*a?x.0&([a=b]~.0&~.0))", "", "*a?c.0 [a=b]~.0 ~.0", "*a?b.0 [a=b]~.0 ~.0", "*a?c.0"},
	} {
		if s, ok := impl.FrontNames(c.p); s != c.front || !ok {
			t.Error("front", c.p, s, ok)
		}
		if n, ok := impl.CountThreads(c.p); n != len(strings.Fields(c.threads)) || !ok {
			t.Error("count", c.p, n, ok)
		}
		checkList(t, impl.ThreadsOf, c.p, c.threads)
		checkList(t, impl.ComponentsOf, c.p, c.components)
		checkList(t, impl.SummandsOf, c.p, c.summands)
	}
}

// checkList calls a function twice and changes what the first call returned in between.
func checkList(t *testing.T, f func(string) ([]string, bool), p, want string) {
	t.Helper()
	for range 2 {
		list, ok := f(p)
		if strings.Join(list, " ") != want || !ok {
			t.Error(p, list, ok)
		}
		for i := range list {
			list[i] = "changed"
		}
		_ = append(list, "more")
	}
}

func TestJoinedHiddenSummed(t *testing.T) {
	for _, c := range []struct{ p, q, joined, sum string }{
		{"0", "0", "0", "0"},
		{"~.0", "0", "~.0", "~.0"},
		{"0", "~.0", "~.0", "~.0"},
		{"b!a.0", "a!b.0", "(a!b.0&b!a.0)", "(a!b.0+b!a.0)"},
		{"#x.a!x.0", "x!a.0", "#b.(a!b.0&x!a.0)", "(#b.a!b.0+x!a.0)"},
		{"#x.a!x.0", "#x.a!x.0", "#b.#c.(a!b.0&a!c.0)", "(#b.a!b.0+#b.a!b.0)"},
		{"(b!a.0+~.0)", "(a!b.0+0)", "((b!a.0+~.0)&a!b.0)", "(a!b.0+(b!a.0+~.0))"},
		{"(b!a.0&~.0)", "(a!b.0&0)", "(a!b.0&(b!a.0&~.0))", "((b!a.0&~.0)+a!b.0)"},
	} {
		if s, ok := impl.JoinProcesses(c.p, c.q); s != c.joined || !ok {
			t.Error("joined", c.p, c.q, s, ok)
		}
		if s, ok := impl.SumOf(c.p, c.q); s != c.sum || !ok {
			t.Error("sum", c.p, c.q, s, ok)
		}
	}
	for _, c := range []struct{ p, name, want string }{
		{"0", "a", "0"},
		{"a!b.0", "c", "a!b.0"},
		{"a!b.0", "a", "#a.a!b.0"},
		{"a!b.0", "b", "#b.a!b.0"},
		{"(c!x.0&b!a.0)", "x", "#d.(b!a.0&c!d.0)"},
		{"a?b.b!a.0", "b", "a?b.b!a.0"},
		{"#x.a!x.0", "a", "#a.#b.a!b.0"},
		{"~.0", "z", "~.0"},
	} {
		if s, ok := impl.HideName(c.p, c.name); s != c.want || !ok {
			t.Error("hidden", c.p, c.name, s, ok)
		}
	}
}

func TestUnfolding(t *testing.T) {
	for _, c := range []struct{ p, path, want string }{
		{"~.*a?x.0", "0", "~.(a?x.0&*a?x.0)"},
		{"*0", "", "(0&*0)"},
		{"**a!b.0", "", "(*a!b.0&**a!b.0)"},
		{"**a!b.0", "0", "*(a!b.0&*a!b.0)"},
		{"(0+[b=a]*a!x.0)", "10", "(0+[b=a](a!x.0&*a!x.0))"},
		{"a?x.*(x!b.0&0)", "0", "a?x.((x!b.0&0)&*(x!b.0&0))"},
		// no normal form is asked for
		{"*#a.#b.#c.#d.#e.#f.a!b.c!d.e!f.0", "", "(#a.#b.#c.#d.#e.#f.a!b.c!d.e!f.0&*#a.#b.#c.#d.#e.#f.a!b.c!d.e!f.0)"},
		{"#x.x!x.(*0&" + letters26 + ")", "000", "#x.x!x.((0&*0)&" + letters26 + ")"},
	} {
		if s, ok := impl.UnfoldAt(c.p, c.path); s != c.want || !ok {
			t.Error(c.p, c.path, s, ok)
		}
	}
	for _, c := range []struct{ p, path string }{
		{"0", ""}, {"a!b.0", ""}, {"*0", "0"}, {"*0", "00"}, {"*0", "1"}, {"*0", "a"}, {"*0", "\xff"}, {"*0", "０"}, {"*0", " "}, {"(*0&0)", "1"}, {"(*0&0)", ""}, {"(*0&0)", "2"}, {"~.*0", "0 "},
		{"*0", strings.Repeat("0", 1000000)},
	} {
		if s, ok := impl.UnfoldAt(c.p, c.path); s != "" || ok {
			t.Errorf("%s at %.20q: %q %v", c.p, c.path, s, ok)
		}
	}
	full := strings.Repeat("~.", 28) + "0" // 29 signs: 29 + 1 + 29 and the & are 60
	if s, ok := impl.UnfoldAt("*"+full, ""); s != "("+full+"&*"+full+")" || !ok {
		t.Error("60 signs:", s, ok)
	}
	if s, ok := impl.UnfoldAt("*~."+full, ""); s != "" || ok {
		t.Error("62 signs:", s, ok)
	}
	if s, ok := impl.UnfoldAt("~.*"+full, "0"); s != "" || ok {
		t.Error("61 signs:", s, ok)
	}
}

func TestLimitsOfNormalForms(t *testing.T) {
	for _, c := range []struct{ p, want string }{
		{"#e.#d.#c.#b.#a.a!b.c!d.e!e.0", "#a.#b.#c.#d.#e.a!b.c!d.e!e.0"},
		{"~.#a.#b.#c.#d.#e.a!b.c!d.e!e.0", "~.#a.#b.#c.#d.#e.a!b.c!d.e!e.0"},
		// the ones that are left out do not count
		{"#f.#e.#d.#c.#b.#a.a!b.c!d.e!e.0", "#a.#b.#c.#d.#e.a!b.c!d.e!e.0"},
		{"#a.#b.#c.#d.#e.#f.(a!b.c!d.e!e.0&[a=f]0)", "#a.#b.#c.#d.#e.a!b.c!d.e!e.0"},
		{strings.Repeat("#a.", 59) + "0", "0"},
		{"#a.#b.#c.#d.#e.#f.[f=e][d=c][b=a]0", "0"},
		// 5 and 3 are 8 in all, each level for itself
		{"#a.#b.#c.#d.#e.a!b.c!d.e!e.#a.#b.#c.a!b.c!c.0", "#a.#b.#c.#d.#e.a!b.c!d.e!e.#f.#g.#h.f!g.h!h.0"},
		{"#a.#b.#c.(a!b.c!c.0&[z=y]#a.#b.#c.a!b.c!c.0)", "#a.#b.#c.([y=z]#d.#e.#f.d!e.f!f.0&a!b.c!c.0)"},
		{"#a.~.#b.~.#c.~.#d.~.#e.~.#f.~.#g.~.#h.a!b.c!d.e!f.g!h.0", "#a.~.#b.~.#c.~.#d.~.#e.~.#f.~.#g.~.#h.a!b.c!d.e!f.g!h.0"},
		// all letters are needed
		{"a?x." + letters26, "a?x." + letters26},
		{"(a?x.0&" + letters25 + ")", "(" + letters25 + "&a?z.0)"},
		{"(" + letters25 + "&#x.x!x.0)", "#z.(" + letters25 + "&z!z.0)"},
		{"(*b?y.0&(" + letters25 + "&a?x.0))", "(*b?z.0&(" + letters25 + "&a?z.0))"},
		{"(#x.x!x.a?y.0&" + letters25[:len(letters25)-5] + "0)", "#y.(" + letters25[:len(letters25)-5] + "0&y!y.a?z.0)"},
		{strings.Repeat("a?a.", 25) + "0", "a?b.b?c.c?d.d?e.e?f.f?g.g?h.h?i.i?j.j?k.k?l.l?m.m?n.n?o.o?p.p?q.q?r.r?s.s?t.t?u.u?v.v?w.w?x.x?y.y?z.0"},
		{letters26, letters26},
	} {
		checkNormal(t, c.p, c.want)
	}
	for _, p := range beyondLimits() {
		if !impl.IsProcess(p) {
			t.Error("no process:", p)
		}
		checkNoNormalForm(t, p)
		for _, q := range []string{"0", "a!b.0", p} {
			checkNoNormalForms(t, p, q)
			checkNoNormalForms(t, q, p)
		}
		if s, ok := impl.HideName("~."+p, "b"); ok {
			t.Error("hidden:", p, s)
		}
	}
}

func checkNoNormalForm(t *testing.T, p string) {
	t.Helper()
	texts := map[string]func(string) (string, bool){"NormalForm": impl.NormalForm, "FrontNames": impl.FrontNames}
	for name, f := range texts {
		if s, ok := f(p); s != "" || ok {
			t.Errorf("%s(%.40q): %q %v", name, p, s, ok)
		}
	}
	flags := map[string]func(string) (bool, bool){"IsNormal": impl.IsNormal, "IsInert": impl.IsInert}
	for name, f := range flags {
		if b, ok := f(p); b || ok {
			t.Errorf("%s(%.40q): %v %v", name, p, b, ok)
		}
	}
	lists := map[string]func(string) ([]string, bool){"ThreadsOf": impl.ThreadsOf, "ComponentsOf": impl.ComponentsOf, "SummandsOf": impl.SummandsOf}
	for name, f := range lists {
		if list, ok := f(p); len(list) != 0 || ok {
			t.Errorf("%s(%.40q): %q %v", name, p, list, ok)
		}
	}
	if n, ok := impl.CountThreads(p); n != 0 || ok {
		t.Errorf("CountThreads(%.40q): %d %v", p, n, ok)
	}
}

func checkNoNormalForms(t *testing.T, p, q string) {
	t.Helper()
	if b, ok := impl.AreCongruent(p, q); b || ok {
		t.Errorf("AreCongruent(%.40q, %.40q): %v %v", p, q, b, ok)
	}
	if s, ok := impl.JoinProcesses(p, q); s != "" || ok {
		t.Errorf("JoinProcesses(%.40q, %.40q): %q %v", p, q, s, ok)
	}
	if s, ok := impl.SumOf(p, q); s != "" || ok {
		t.Errorf("SumOf(%.40q, %.40q): %q %v", p, q, s, ok)
	}
}

// TestLimitsOfResults joins, hides and sums processes of up to 60 signs.
func TestLimitsOfResults(t *testing.T) {
	full, half, lesser := strings.Repeat("a!a.", 59)+"0", strings.Repeat("a!a.", 29)+"0", strings.Repeat("a!a.", 28)+"0"
	join, sum := impl.JoinProcesses, impl.SumOf
	for _, c := range []struct {
		f          func(string, string) (string, bool)
		p, q, want string
	}{
		{join, half, lesser, "(" + lesser + "&" + half + ")"},
		{join, half, half, ""},
		{join, full, full, ""},
		{join, full, "0", full},
		{join, full, strings.Repeat("#x.", 59) + "0", full},
		{join, full, strings.Repeat("*", 59) + "0", full},
		{join, strings.Repeat("(0&", 29) + "~.0" + strings.Repeat(")", 29), strings.Repeat("#x.", 57) + "a!b.0", "(a!b.0&~.0)"},
		{join, "#a.#b.a!b.0", "#a.#b.#c.a!b.c!c.0", "#a.#b.#c.#d.#e.(a!b.0&c!d.e!e.0)"},
		{join, "#a.#b.#c.a!b.c!c.0", "#a.#b.#c.a!b.c!c.0", ""},
		{join, "~.#a.#b.#c.#d.a!b.c!d.0", "~.#a.#b.#c.#d.a!b.c!d.0", "(~.#a.#b.#c.#d.a!b.c!d.0&~.#a.#b.#c.#d.a!b.c!d.0)"},
		{join, "~.#a.#b.#c.#d.a!b.c!d.0", "~.#a.#b.#c.#d.#e.a!b.c!d.e!e.0", ""},
		{join, letters26, "#x.x!x.0", ""},
		{join, letters25, "#x.x!x.0", "#z.(" + letters25 + "&z!z.0)"},
		// as many signs that bind as two processes can have
		{join, strings.Repeat("a?x.", 59) + "0", strings.Repeat("a?x.", 59) + "0", ""},
		{sum, strings.Repeat("a?x.", 59) + "0", strings.Repeat("a?x.", 59) + "0", ""},
		{impl.HideName, strings.Repeat("a?x.", 59) + "0", "a", ""},
		{sum, half, lesser, "(" + lesser + "+" + half + ")"},
		{sum, half, half, ""},
		{sum, full, full, ""},
		{sum, "0", full, full},
		{sum, "#a.#b.#c.a!b.c!c.0", "#a.#b.#c.a!b.c!c.0", "(#a.#b.#c.a!b.c!c.0+#a.#b.#c.a!b.c!c.0)"},
		{sum, "#a.#b.#c.#d.a!b.c!d.0", "#a.#b.#c.#d.#e.a!b.c!d.e!e.0", ""},
		{sum, letters26, "a?x.0", ""},
		{impl.HideName, full, "b", full},
		{impl.HideName, full, "a", ""},
		{impl.HideName, full[4:], "a", "#" + "a." + full[4:]},
		{impl.HideName, "#a.#b.#c.#d.a!b.c!d.z!z.0", "z", "#a.#b.#c.#d.#e.a!b.c!d.e!e.0"},
		{impl.HideName, "#a.#b.#c.#d.#e.a!b.c!d.e!z.0", "z", ""},
		{impl.HideName, "#a.#b.#c.a!b.c!z.#a.#b.#c.#d.a!b.c!d.0", "z", "#a.#b.#c.#d.a!b.c!d.#e.#f.#g.#h.e!f.g!h.0"},
		{impl.HideName, "#a.#b.#c.a!b.c!z.#a.#b.#c.#d.#e.a!b.c!d.e!e.0", "z", ""},
	} {
		if s, ok := c.f(c.p, c.q); s != c.want || ok != (c.want != "") {
			t.Error(c.p, c.q, s, ok)
		}
	}
}

func TestNoArgumentsOfChapter2(t *testing.T) {
	for _, p := range noProcesses() {
		checkNoNormalForm(t, p)
		checkNoNormalForms(t, p, "0")
		checkNoNormalForms(t, "0", p)
		for _, other := range []string{"", "0", "a"} {
			if s, ok := impl.HideName(p, other); s != "" || ok {
				t.Errorf("HideName(%.40q, %q): %q %v", p, other, s, ok)
			}
			if s, ok := impl.UnfoldAt(p, other); s != "" || ok {
				t.Errorf("UnfoldAt(%.40q, %q): %q %v", p, other, s, ok)
			}
		}
	}
	for _, name := range []string{"", "aa", "A", "0", "#", " ", "é", "\x00", "\xff", "`", "{", alphabet} {
		for _, p := range []string{"0", "a!b.0"} {
			if s, ok := impl.HideName(p, name); s != "" || ok {
				t.Errorf("HideName(%q, %q): %q %v", p, name, s, ok)
			}
		}
	}
}
