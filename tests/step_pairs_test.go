package tests

import (
	"strings"
	"testing"

	"loop.example/g01175/impl"
)

// checkPair checks what two processes do together, which is the same the other way round.
func checkPair(t *testing.T, f func(p, q string) ([]string, bool), p, q, want string) {
	t.Helper()
	checkList(t, func(p string) ([]string, bool) { return f(p, q) }, p, want)
	checkList(t, func(q string) ([]string, bool) { return f(q, p) }, q, want)
}

func TestCommunications(t *testing.T) {
	for _, c := range []struct{ p, q, want string }{
		// the example of the document
		{sender, echo, "#a.(a!b.0&a?c.0)"},
		// free names
		{"a!b.0", "a?x.x!c.0", "b!c.0"},
		{"a!b.0", "a?x.0", "0"},
		{"a!b.c!c.0", "a?x.x!x.0", "(b!b.0&c!c.0)"},
		{"a!a.0", "a?x.x?y.0", "a?b.0"},
		{"a!x.0", "a?y.#x.(x!y.0&y!x.0)", "#a.(a!x.0&x!a.0)"},
		{"a!b.0", "#b.a?c.(b!c.0&c!b.0)", "#a.(a!b.0&b!a.0)"},
		{"a!b.0", "a?x.c?b.x!b.0", "c?a.b!a.0"},
		// in both directions
		{"(a!b.0&c?x.x!x.0)", "(a?x.d!x.0&c!a.0)", "(a!a.0&(a!b.0&a?c.d!c.0)) (c!a.0&(c?e.e!e.0&d!b.0))"},
		{"(a!b.0+c?x.x!x.0)", "(a?x.d!x.0+c!a.0)", "a!a.0 d!b.0"},
		{"(a!b.0&a?x.0)", "(a!c.0&a?x.x!x.0)", "(a!b.0&a?c.c!c.0) (a!c.0&(a?d.0&b!b.0))"},
		// names of their own
		{"#b.a!b.0", "a?x.b!x.0", "#a.b!a.0"},
		{"#b.a!b.0", "a?x.0", "0"},
		{"#x.a!x.x!b.0", "a?y.y?z.0", "#a.(a!b.0&a?c.0)"},
		{"#c.a!c.c!c.0", "#c.a?x.c!x.0", "#a.#b.(a!a.0&b!a.0)"},
		{"#x.#y.a!x.x!y.y!b.0", "a?z.z?u.0", "#a.#c.(a!c.c!b.0&a?d.0)"},
		{"#x.a!b.x!x.0", "a?y.y!y.0", "#a.(a!a.0&b!b.0)"},
		{"#x.(a!x.0+a!b.x!x.0)", "a?y.y!c.0", "#a.(a!a.0&b!c.0) #a.a!c.0"},
		{"(#x.a!x.0&c?y.0)", "(#x.c!x.0&a?y.y!d.0)", "#a.#b.(a!d.0&(c!b.0&c?e.0)) #b.(a!b.0&a?c.c!d.0)"},
		{"#x.a!x.0", "a?y.[y=b]c!c.0", "#a.[a=b]c!c.0"},
		// names bound at the front are neither sent on nor received on
		{"#a.a!b.0", "a?x.0", ""},
		{"a!b.0", "#a.a?x.0", ""},
		{"#a.a!b.0", "#a.a?x.0", ""},
		{"#x.x!a.0", "x?y.0", ""},
		// parts of sums, the others being left out, and repeated ones, which stay
		{"(a!b.b!b.0+c!c.0)", "(a?x.x!d.0+~.0)", "(b!b.0&b!d.0)"},
		{"(a!b.0+(a!c.0+d!d.0))", "a?x.x!x.0", "b!b.0 c!c.0"},
		{"a!b.0", "*a?x.x!c.0", "(*a?d.d!c.0&b!c.0)"},
		{"#x.a!x.x?y.0", "*a?x.x!c.0", "#b.(*a?d.d!c.0&(b!c.0&b?d.0))"},
		{"(a!b.0&*a?x.0)", "*a?x.~.0", "(*a?b.0&(*a?b.~.0&~.0))"},
		// what both do by themselves
		{"(a!b.0&a?x.0)", "0", ""},
		{"~.0", "(a!b.0&~.0)", ""},
		{"0", "0", ""},
		{"a!b.0", "a!b.0", ""},
		{"a?x.0", "*a?x.0", ""},
		{"a!b.0", "b?x.0", ""},
		{"a!b.0", "c!c.a?x.0", ""},
		{"[b=c]a!b.0", "a?x.0", ""},
		// equal results
		{"(a!b.0&a!b.0)", "a?x.0", "a!b.0"},
		{"(a!b.0+a!c.0)", "a?x.0", "0"},
		{"(#x.a!x.0&a!b.0)", "a?x.0", "#b.a!b.0 a!b.0"},
		// with all letters, of which none is new
		{letters26, "a?x.x!x.0", "(b!b.0&" + strings.TrimPrefix(letters26, "a!b.") + ")"},
	} {
		checkPair(t, impl.CommunicationsOf, c.p, c.q, c.want)
		if list, ok := impl.ReductionsOf("(" + c.p + "&" + c.q + ")"); ok {
			checkPair(t, impl.ParallelSteps, c.p, c.q, strings.Join(list, " "))
		}
	}
}

func TestParallelSteps(t *testing.T) {
	for _, c := range []struct{ p, q, want string }{
		{sender, echo, "#a.(a!b.0&a?c.0)"},
		{"0", "0", ""},
		{"a!b.0", "c?x.0", ""},
		{"~.0", "0", "0"},
		{"~.a!a.0", "b!b.0", "(a!a.0&b!b.0)"},
		{"~.a!a.0", "~.b!b.0", "(a!a.0&~.b!b.0) (b!b.0&~.a!a.0)"},
		{"~.0", "~.0", "~.0"},
		{"(~.a!a.0+b!b.0)", "c?x.~.0", "(a!a.0&c?b.~.0)"},
		{"(~.a!a.0+c!b.0)", "c?x.~.0", "(a!a.0&c?b.~.0) ~.0"},
		{"(a!b.0&a?x.0)", "0", "0"},
		{"(a!b.0&a?x.0)", "(a!c.0&a?x.0)", "(a!b.0&a?c.0) (a!c.0&a?b.0)"},
		{"#x.~.a!x.0", "b!x.0", "#c.(a!c.0&b!x.0)"},
		{"#x.(x!b.0&x?y.y!x.0)", "a!x.0", "#c.(a!x.0&b!c.0)"},
		{"(*a?x.b!x.0&a!c.0)", "a!d.0", "(*a?e.b!e.0&(a!c.0&b!d.0)) (*a?e.b!e.0&(a!d.0&b!c.0))"},
	} {
		checkPair(t, impl.ParallelSteps, c.p, c.q, c.want)
		checkList(t, impl.ReductionsOf, "("+c.p+"&"+c.q+")", c.want)
	}
}

// TestNoLetterIsLeft shares all letters, and all but z, out to two processes.
func TestNoLetterIsLeft(t *testing.T) {
	first, second := "b!c.d!e.f!g.h!i.j!k.l!m.0", "n!o.p!q.r!s.t!u.v!w.x!y.z!z.0"
	behindFirst := strings.TrimPrefix(first, "b!c.")
	untilY := strings.TrimSuffix(second, "z!z.0") + "0"
	own := "(#x.a!x.0&" + first + ")"
	for _, c := range []struct{ p, q, want string }{
		{own, "(a?x.0&" + untilY + ")", "(" + first + "&" + untilY + ")"},
		{own, "(a?x.b!x.0&" + untilY + ")", "#a." + sideBySide("b!a.0", first, untilY)},
		// a name of its own is not sent
		{own, second, ""},
		{own, "(o?x.0&" + second + ")", ""},
		{own, "(#a.a?x.0&" + second + ")", ""},
		{own, "(b?x.0&" + second + ")", "#b." + sideBySide("a!b.0", behindFirst, second)},
		{"(a!b.0&" + first + ")", "(a?x.0&" + second + ")", "(" + first + "&" + second + ")"},
	} {
		checkPair(t, impl.CommunicationsOf, c.p, c.q, c.want)
		checkPair(t, impl.ParallelSteps, c.p, c.q, c.want)
	}
	for _, q := range []string{"(a?x.0&" + second + ")", "(*a?x.0&" + second + ")", "(n!n.0+a?a.~." + second + ")"} {
		checkNoPair(t, impl.CommunicationsOf, own, q)
		checkNoPair(t, impl.ParallelSteps, own, q)
	}
}

// TestLimitsOfPairs meets limits exactly with the results of two processes, and exceeds them.
func TestLimitsOfPairs(t *testing.T) {
	sends := func(n int) string { return strings.Repeat("d!d.", n) + "0" }
	for _, c := range []struct{ p, q, want string }{ // nothing is wanted if both calls fail
		// MaxFront signs # at the front
		{"#c.#d.#e.a!b.c!d.e!e.0", "#c.#d.a?x.c!d.0", "#a.#b.#c.#d.#e.(a!b.0&c!d.e!e.0)"},
		{"#c.#d.#e.a!b.c!d.e!e.0", "#c.#d.#e.a?x.c!d.e!e.0", ""},
		{"#x.#c.#d.a!x.x!c.d!d.0", "#c.#d.a?x.c!d.0", "#a.#b.#c.#d.#e.(a!b.0&c!d.e!e.0)"},
		{"#x.#c.#d.a!x.x!c.d!d.0", "#c.#d.a?x.x!c.d!d.0", "#a.#b.#c.#d.#e.(a!b.c!c.0&a!d.e!e.0)"},
		{"#x.#c.#d.a!x.x!c.d!d.0", "#c.#d.#e.a?x.c!d.e!e.0", ""},
		{"(a!a.0+a!b.#c.#d.#e.c!d.e!e.0)", "a?x.#c.#d.#e.c!d.e!e.0", ""},
		// of steps that meet, not of others
		{"#c.#d.(b!a.c!d.0+a!b.#e.#f.#g.#h.c!d.e!f.g!h.0)", "b?x.0", "#a.#b.a!b.0"},
		{"#c.#d.(b!a.c!d.0+a!b.#e.#f.#g.#h.c!d.e!f.g!h.0)", "(b?x.0+a?x.0)", ""},
		{"#c.#d.(b?y.c!d.0+a?x.#e.#f.#g.#h.c!d.e!f.g!h.0)", "b!a.0", "#a.#b.a!b.0"},
		{"#c.#d.(b?y.c!d.0+a?x.#e.#f.#g.#h.c!d.e!f.g!h.0)", "(b!a.0+a!a.0)", ""},
		// MaxOwn in all
		{"a!b.b?y.#c.#d.#e.#f.c!d.e!f.0", "a?x.b?y.#c.#d.#e.#f.c!d.e!f.0", "(b?a.#c.#d.#e.#f.c!d.e!f.0&b?a.#c.#d.#e.#f.c!d.e!f.0)"},
		{"a!b.b?y.#c.#d.#e.#f.c!d.e!f.0", "#z.a?x.z!b.b?y.#c.#d.#e.#f.c!d.e!f.0", ""},
		{"#z.a!z.b?y.#c.#d.#e.#f.c!d.e!f.0", "a?z.b?y.#c.#d.#e.#f.c!d.e!f.0", "(b?a.#c.#d.#e.#f.c!d.e!f.0&b?a.#c.#d.#e.#f.c!d.e!f.0)"},
		{"#z.a!z.b?y.#c.#d.#e.#f.c!d.e!f.0", "a?z.b!z.b?y.#c.#d.#e.#f.c!d.e!f.0", ""},
		// signs
		{"a!b." + sends(28), "a?x." + sends(29), "(" + sends(28) + "&" + sends(29) + ")"},
		{"a!b." + sends(29), "a?x." + sends(29), ""},
		// letters
		{"a!b.a?y.0", "a?z." + letters25, "(" + letters25 + "&a?z.0)"},
		{"a!b.a?x.a?y.0", "a?z." + letters25, ""},
	} {
		if c.want == "" {
			checkNoPair(t, impl.CommunicationsOf, c.p, c.q)
			checkNoPair(t, impl.ParallelSteps, c.p, c.q)
			continue
		}
		checkPair(t, impl.CommunicationsOf, c.p, c.q, c.want)
		checkPair(t, impl.ParallelSteps, c.p, c.q, c.want)
	}
}

// TestPairsBeyondLimits has two that side by side are beyond a limit, though what is behind their steps is not, or none are made.
func TestPairsBeyondLimits(t *testing.T) {
	three := "#c.#d.#e.b!c.c!d.e!e.0"
	long := strings.Repeat("c!c.", 50) + "0"
	for _, c := range []struct{ p, q, met, steps string }{
		{three, three, "", ""},
		{three, "#c.#d.#e.(~.b!b.0+b!c.d!e.0)", "", "#a.#c.#d.(b!a.a!c.d!d.0&b!b.0)"},
		{"#c.#d.#e.(a!b.0+b!c.d!e.0)", "#c.#d.#e.(a?x.x!x.0+b!c.d!e.0)", "b!b.0", "b!b.0"},
		{"(a!b.0+b!b." + long + ")", "(a?x.x!x.0+c!c." + long + ")", "b!b.0", "b!b.0"},
		{"c!c." + long, "a!b." + long, "", ""},
	} {
		checkPair(t, impl.CommunicationsOf, c.p, c.q, c.met)
		checkPair(t, impl.ParallelSteps, c.p, c.q, c.steps)
		if list, ok := impl.ReductionsOf("(" + c.p + "&" + c.q + ")"); ok {
			t.Error("within the limits:", c.p, c.q, list)
		}
	}
	// a reduction of one of them is beyond the limits, alone or with the other one beside it
	for _, c := range []struct{ p, q, met string }{
		{"(a!b.0+~." + long + ")", "(a?x.x!x.0+c!c." + long + ")", "b!b.0"},
		{"~." + long, "a!b." + long, ""},
		{"#c.#d.#e.(~.c!d.e!e.0+a!b.0)", "#c.#d.#e.(b!c.d!e.0+a?x.0)", "0"},
		{"#x.#y.~.#c.#d.#e.#f.x!c.y!d.e!f.0", "0", ""},
	} {
		checkPair(t, impl.CommunicationsOf, c.p, c.q, c.met)
		checkNoPair(t, impl.ParallelSteps, c.p, c.q)
	}
}

// checkNoPair checks that a call fails both ways round.
func checkNoPair(t *testing.T, f func(p, q string) ([]string, bool), p, q string) {
	t.Helper()
	if list, ok := f(p, q); list != nil || ok {
		t.Error(p, q, list, ok)
	}
	if list, ok := f(q, p); list != nil || ok {
		t.Error(q, p, list, ok)
	}
}
