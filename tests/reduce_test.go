package tests

import (
	"math"
	"slices"
	"strings"
	"testing"

	"loop.example/g01175/impl"
)

const (
	twoWays = "(a!b.0&(a?x.x!c.0+~.0))"
	served  = "(*a?x.b!x.0&(a!c.0&a!d.0))"
	allDone = "(*a?e.b!e.0&(b!c.0&b!d.0))"
	endless = "(a!a.0&*a?x.a!x.0)"
	growing = "(a!b.0&*a?x.(a!x.0&c!x.0))"
)

// notSimple has processes that are not simple, most with a normal form that is.
func notSimple() []string {
	return []string{
		"*0", "*~.0", "*a!b.0", "**a?x.0", "*#x.a?x.0", "*[a=a]a?x.0", "*(a?x.0+0)", "~.*0", "a?x.(0&*~.0)",
		"(0+(0&0))", "((~.0&0)+0)", "(0+#x.~.0)", "([a=a]~.0+0)", "(*a?x.0+~.0)", "a!b.(0+(~.0&0))",
	}
}

func TestReductions(t *testing.T) {
	for _, c := range []struct{ p, want string }{
		// both examples of the document
		{twoWays, "a!b.0 b!c.0"},
		{served, "(*a?e.b!e.0&(a!c.0&b!d.0)) (*a?e.b!e.0&(a!d.0&b!c.0))"},
		{"(*a?e.b!e.0&(a!c.0&b!d.0))", allDone},
		// silent steps
		{"~.0", "0"},
		{"~.a!b.0", "a!b.0"},
		{"~.~.0", "~.0"},
		{"(~.a!a.0&~.b!b.0)", "(a!a.0&~.b!b.0) (b!b.0&~.a!a.0)"},
		{"(~.a!a.0+b!b.0)", "a!a.0"},
		{"(~.a!a.0+(a!b.0+~.b!b.0))", "a!a.0 b!b.0"},
		{"((~.a!a.0+b!b.0)&c!c.0)", "(a!a.0&c!c.0)"},
		{"(~.0+0)", "0"},
		{"[a=a]~.b!b.0", "b!b.0"},
		{"#x.~.x!x.0", "#a.a!a.0"},
		{"#x.(~.x!a.0&b!x.0)", "#c.(b!c.0&c!a.0)"},
		{"~.#x.(0&a!x.0)", "#b.a!b.0"},
		// other parts of sums are left out, on both sides
		{"((a!b.c!c.0+c!b.0)&(d!d.0+a?x.x!d.0))", "(b!d.0&c!c.0)"},
		{"((a!b.0+a!c.0)&(a?x.x!x.0+a?x.d!x.0))", "b!b.0 c!c.0 d!b.0 d!c.0"},
		{"(((a!b.0+0)+(c!b.0+~.0))&c?x.d!x.0)", "c?a.d!a.0 d!b.0"},
		// names that are handed over are sent and received over in turn
		{"(a!b.b?y.y!y.0&a?x.x!c.0)", "(b!c.0&b?a.a!a.0)"},
		{"(b!c.0&b?a.a!a.0)", "c!c.0"},
		{"(a!a.0&a?x.x?y.y!x.0)", "a?b.b!a.0"},
		{"(a!b.0&a?x.x?x.x!x.0)", "b?a.a!a.0"},
		{"(a!b.0&a?x.a!x.0)", "a!b.0"},
		// a third one stays as it is
		{"(a!b.0&(a?x.0&c!d.~.0))", "c!d.~.0"},
		{"(a!b.0&(a!c.0&a?x.x!x.0))", "(a!b.0&c!c.0) (a!c.0&b!b.0)"},
		{"(a!b.0&(a?x.x!x.0&a?x.x!c.0))", "(a?d.d!c.0&b!b.0) (a?d.d!d.0&b!c.0)"},
		// a repeated one stays
		{"(*a?x.x!c.0&a!b.0)", "(*a?d.d!c.0&b!c.0)"},
		{"(*a?x.0&a!b.0)", "*a?b.0"},
		{"(*a?x.*x?y.y!y.0&a!a.0)", "(*a?b.*b?c.c!c.0&*a?b.b!b.0)"},
		{"#a.(*a?x.x!c.0&a!b.0)", "#a.(*a?d.d!c.0&b!c.0)"},
		{"(*a?x.0&(a?x.c!x.0&a!b.0))", "(*a?b.0&a?b.c!b.0) (*a?d.0&c!b.0)"},
		{endless, "(*a?b.a!b.0&a!a.0)"},
		// names of their own that are handed over
		{"(#x.a!x.x!b.0&a?y.y?z.0)", "#a.(a!b.0&a?c.0)"},
		{"#x.(a!x.0&a?y.(y!y.0&a!b.0))", "#c.(a!b.0&c!c.0)"},
		{"(#x.a!x.0&*a?y.b!y.0)", "#c.(*a?d.b!d.0&b!c.0)"},
		{"#a.(a!b.0&a?x.x!x.0)", "b!b.0"},
		{"#a.(a!b.a!c.0&a?x.a?y.0)", "#a.(a!c.0&a?b.0)"},
		// names that would be captured
		{"(a!b.0&a?x.#b.x!b.0)", "#a.b!a.0"},
		{"(a!b.0&a?x.c?b.x!b.0)", "c?a.b!a.0"},
		{"(a!x.0&a?y.#x.(x!y.0&y!x.0))", "#a.(a!x.0&x!a.0)"},
		{"(#b.a!b.0&a?x.(x!b.0&b?y.0))", "#a.(a!b.0&b?c.0)"},
		{"(#b.a!b.0&b?x.0)", ""},
		{"#c.(a!c.0&(a?x.b?c.c!x.0&d!d.0))", "#a.(b?c.c!a.0&d!d.0)"},
		{"(~.#x.a!x.0&#x.b!x.0)", "#c.#d.(a!c.0&b!d.0)"},
		// matches
		{"(a!b.0&a?x.[x=b]c!c.0)", "c!c.0"},
		{"(a!d.0&a?x.[x=b]c!c.0)", "[b=d]c!c.0"},
		{"(#b.a!b.0&a?x.[x=b]c!c.0)", "#a.[a=b]c!c.0"},
		{"(a!b.0&(a?x.0&[a=b]c!c.0))", "[a=b]c!c.0"},
		// equal results
		{"(a!b.0&(a!b.0&a?x.0))", "a!b.0"},
		{"(a!b.0&(a?x.0&a?x.0))", "a?b.0"},
		{"(~.a!a.0+~.a!a.0)", "a!a.0"},
		{"(~.#x.x!a.0+~.#y.(0&y!a.0))", "#b.b!a.0"},
		{"(~.0&~.0)", "~.0"},
		{"((~.0&a?x.0)&a!b.0)", "(a!b.0&a?c.0) ~.0"},
		{"((a!b.0+~.0)&a?x.0)", "0 a?b.0"},
		// a sum does not meet itself, but another one that is the same
		{"((a!b.c!c.0+a?x.x!x.0)&(a!b.c!c.0+a?x.x!x.0))", "(b!b.0&c!c.0)"},
	} {
		checkReductions(t, c.p, c.want)
	}
}

func TestStuckOnes(t *testing.T) {
	for _, p := range []string{
		"0", "(0&#x.0)", "a!b.0", "a?x.0", "(a!b.0&a!b.0)", "(a?x.0&a?x.0)", "(a!b.0&c?x.0)", "(a!b.0&b?x.0)", "(a!b.0+a?x.0)",
		"*a?x.a!x.0", "(*a?x.0&*a?x.0)", "(a?x.b!x.0&b?x.a!x.0)", allDone, "#a.(a!b.0&c?x.0)", "(#a.a!b.0&a?x.0)", "(#a.a!b.0&#a.a?x.0)",
		// matches of different names
		"[a=b]~.0", "([a=b]a!b.0&a?x.0)", "([a=b]a?x.0&a!b.0)", "[a=b](a!b.0&a?x.0)", "#x.[x=a]~.0", "(a?x.0&[a=a][b=c](a!b.0&~.0))",
		// what is inside of other signs
		"a!b.~.0", "a?x.~.0", "*a?x.~.0", "c?x.(a!b.0&a?y.0)", "(a!b.0&c!c.a?x.0)", "(a!b.0&*c?x.a?y.0)", "(a!b.0+c!b.(~.0+0))", "(a?x.0&*c?x.a!x.0)",
	} {
		checkReductions(t, p, "")
		normal, _ := impl.NormalForm(p)
		checkRunsTold(t, p, normal, normal, 0)
		if run, ok := impl.RunBy(p, []int{3, 0, math.MaxInt}); len(run) != 1 || run[0] != normal || !ok {
			t.Error(p, run, ok)
		}
	}
}

// checkReductions checks all that is told of one step.
func checkReductions(t *testing.T, p, want string) {
	t.Helper()
	checkList(t, impl.ReductionsOf, p, want)
	count := len(strings.Fields(want))
	if n, ok := impl.CountReductions(p); n != count || !ok {
		t.Error("count", p, n, ok)
	}
	if is, ok := impl.IsStuck(p); is != (count == 0) || !ok {
		t.Error("stuck", p, is, ok)
	}
}

// checkRunsTold checks all that is told of all runs; longest is -1 if there are runs without end.
func checkRunsTold(t *testing.T, p, reached, stuck string, longest int) {
	t.Helper()
	checkList(t, impl.ReachedFrom, p, reached)
	checkList(t, impl.StuckFrom, p, stuck)
	if n, ok := impl.LongestRun(p); n != max(longest, 0) || ok != (longest >= 0) {
		t.Error("longest", p, n, ok)
	}
	if is, ok := impl.CanGoOn(p); is != (longest < 0) || !ok {
		t.Error("goes on", p, is, ok)
	}
	if is, ok := impl.IsDeterminate(p); is != (len(strings.Fields(stuck)) <= 1) || !ok {
		t.Error("determinate", p, is, ok)
	}
}

func TestRuns(t *testing.T) {
	for _, c := range []struct {
		p, reached, stuck string
		longest           int
	}{
		{twoWays, "((a?d.d!c.0+~.0)&a!b.0) a!b.0 b!c.0", "a!b.0 b!c.0", 1},
		{served, "(*a?e.b!e.0&(a!c.0&a!d.0)) (*a?e.b!e.0&(a!c.0&b!d.0)) (*a?e.b!e.0&(a!d.0&b!c.0)) " + allDone, allDone, 2},
		{"~.~.~.0", "0 ~.0 ~.~.0 ~.~.~.0", "0", 3},
		{"(~.0&~.a!a.0)", "(a!a.0&~.0) (~.0&~.a!a.0) a!a.0 ~.a!a.0", "a!a.0", 2},
		{"(~.a!a.0+~.~.a!a.0)", "(~.a!a.0+~.~.a!a.0) a!a.0 ~.a!a.0", "a!a.0", 2},
		{"(~.a!a.0+(~.0+~.~.~.b!b.0))", "(~.0+(~.a!a.0+~.~.~.b!b.0)) 0 a!a.0 b!b.0 ~.b!b.0 ~.~.b!b.0", "0 a!a.0 b!b.0", 3},
		// runs without end: in one process, in two, in all or some
		{endless, "(*a?b.a!b.0&a!a.0)", "", -1},
		{"(a!a.0&(*a?x.b!x.0&*b?x.a!x.0))", "(*a?c.b!c.0&(*b?c.a!c.0&a!a.0)) (*a?c.b!c.0&(*b?c.a!c.0&b!a.0))", "", -1},
		{"(" + endless + "&a?x.0)", "(*a?b.a!b.0&(a!a.0&a?b.0)) *a?b.a!b.0", "*a?b.a!b.0", -1},
		{"(~.c!c.0+(~.~.b!b.0+~." + endless + "))", "(*a?b.a!b.0&a!a.0) (~.(*a?d.a!d.0&a!a.0)+(~.c!c.0+~.~.b!b.0)) b!b.0 c!c.0 ~.b!b.0", "b!b.0 c!c.0", -1},
	} {
		checkRunsTold(t, c.p, c.reached, c.stuck, c.longest)
	}
}

func TestStepsTo(t *testing.T) {
	for _, c := range []struct {
		p, q string
		want int // -1 if it is not reached
	}{
		{"0", "0", 0},
		{served, served, 0},
		{served, "(a!d.0&(*a?x.b!x.0&a!c.0))", 0},
		{served, "(#z.0&(b!c.0&(*a?x.b!x.0&a!d.0)))", 1},
		{served, allDone, 2},
		{allDone, served, -1},
		{served, "*a?e.b!e.0", -1},
		{served, "0", -1},
		{twoWays, "a!b.0", 1},
		{twoWays, "b!c.0", 1},
		// the least number of several ways
		{"(~.~.~.0+~.a!a.0)", "0", 3},
		{"(~.~.~.0+(~.a!a.0+~.0))", "0", 1},
		{"(~.~.~.~.0+~.~.~.0)", "~.0", 2},
		// ways without end
		{endless, endless, 0},
		{"(a!a.0&(*a?x.b!x.0&*b?x.a!x.0))", "(b!a.0&(*a?x.b!x.0&*b?x.a!x.0))", 1},
		{"(b!a.0&(*a?x.b!x.0&*b?x.a!x.0))", "(a!a.0&(*a?x.b!x.0&*b?x.a!x.0))", 1},
		{"(" + endless + "&a?x.~.0)", "*a?z.a!z.0", 2},
	} {
		if n, ok := impl.StepsTo(c.p, c.q); n != max(c.want, 0) || ok != (c.want >= 0) {
			t.Error(c.p, c.q, n, ok)
		}
	}
	for _, q := range slices.Concat(noProcesses(), notSimple(), beyondLimits()) {
		for _, p := range []string{"0", "~.0", twoWays} {
			if n, ok := impl.StepsTo(p, q); n != 0 || ok {
				t.Errorf("StepsTo(%q, %.40q): %d %v", p, q, n, ok)
			}
			if n, ok := impl.StepsTo(q, p); n != 0 || ok {
				t.Errorf("StepsTo(%.40q, %q): %d %v", q, p, n, ok)
			}
		}
	}
}

func TestRunsByChoices(t *testing.T) {
	start, half := "((a?d.d!c.0+~.0)&a!b.0)", "(*a?e.b!e.0&(a!c.0&b!d.0))"
	for _, c := range []struct {
		p       string
		choices []int
		want    []string
	}{
		{twoWays, nil, []string{start}},
		{twoWays, []int{}, []string{start}},
		{twoWays, []int{0}, []string{start, "a!b.0"}},
		{twoWays, []int{1}, []string{start, "b!c.0"}},
		{twoWays, []int{2}, []string{start, "a!b.0"}},
		{twoWays, []int{math.MaxInt}, []string{start, "b!c.0"}},
		{twoWays, []int{1, 0, 7}, []string{start, "b!c.0"}},
		{served, []int{0}, []string{served[:2] + "a?e.b!e.0&(a!c.0&a!d.0))", half}},
		{served, []int{2, 9}, []string{served[:2] + "a?e.b!e.0&(a!c.0&a!d.0))", half, allDone}},
		{served, []int{3, 9, 9}, []string{served[:2] + "a?e.b!e.0&(a!c.0&a!d.0))", "(*a?e.b!e.0&(a!d.0&b!c.0))", allDone}},
		{"(~.0+(~.a!a.0+~.~.b!b.0))", []int{5, 1}, []string{"(~.0+(~.a!a.0+~.~.b!b.0))", "~.b!b.0", "b!b.0"}},
		{"(0&#x.0)", nil, []string{"0"}},
		{"0", make([]int, 20), []string{"0"}},
		{endless, make([]int, 20), slices.Repeat([]string{"(*a?b.a!b.0&a!a.0)"}, 21)},
		// invalid choices, even behind the end of the run
		{endless, make([]int, 21), nil},
		{"0", make([]int, 21), nil},
		{"0", make([]int, 100000), nil},
		{"0", []int{-1}, nil},
		{"0", []int{0, 0, math.MinInt}, nil},
		{twoWays, []int{-2}, nil},
		{served, []int{0, 0, -1}, nil},
		{"~.0", append(make([]int, 19), -1), nil},
	} {
		before := slices.Clone(c.choices)
		for range 2 {
			run, ok := impl.RunBy(c.p, c.choices)
			if !slices.Equal(run, c.want) || ok != (c.want != nil) {
				t.Error(c.p, c.choices, run, ok)
			}
			for i := range run {
				run[i] = "changed"
			}
		}
		if !slices.Equal(before, c.choices) {
			t.Error("choices are changed:", before, c.choices)
		}
	}
	room := []int{1, 0, -5, -6}
	if run, ok := impl.RunBy(served, room[:2]); len(run) != 3 || !ok || !slices.Equal(room, []int{1, 0, -5, -6}) {
		t.Error("room behind the choices:", run, ok, room)
	}
}

func TestOffers(t *testing.T) {
	for _, c := range []struct{ p, sends, receives string }{
		{"0", "", ""},
		{"~.a!b.0", "", ""},
		{twoWays, "a", "a"},
		{served, "a", "a"},
		{"(a!b.0&c?x.0)", "a", "c"},
		{"(z!a.0&(b?x.0&(y!a.0&a?x.0)))", "yz", "ab"},
		{"(b!a.0&(a!b.0&b!b.0))", "ab", ""},
		// parts of sums, and repeated ones
		{"((b!a.0+~.0)&(c?x.0+(a!a.0+d?x.0)))", "ab", "cd"},
		{"*a?x.b?x.c!x.0", "", "a"},
		{"(*a?x.0&#b.b?x.0)", "", "a"},
		{"(*b?x.0&(*a?x.0&c?x.0))", "", "abc"},
		// names of their own
		{"#a.(a!b.0&b!a.0)", "b", ""},
		{"#x.(x!a.0+(x?y.0+b?y.0))", "", "b"},
		{"(#a.(*a?x.0&a!b.0)&a!b.0)", "a", ""},
		{"(#x.a!x.0&#x.x!a.0)", "a", ""},
		{"#x.a!b.0", "a", ""},
		// what is inside of other signs, and matches
		{"a!b.c!d.e?x.0", "a", ""},
		{"a?x.b?y.c!y.0", "", "a"},
		{"[a=b](a!b.0&c?x.0)", "", ""},
		{"[a=a](a!b.0&c?x.0)", "a", "c"},
		{"#x.[x=x]a!x.0", "a", ""},
		{letters26, "a", ""},
		{"(z!a.0&" + letters26 + ")", "az", ""},
	} {
		if s, ok := impl.SendsOf(c.p); s != c.sends || !ok {
			t.Error("sends", c.p, s, ok)
		}
		if s, ok := impl.ReceivesOf(c.p); s != c.receives || !ok {
			t.Error("receives", c.p, s, ok)
		}
	}
}

// TestLimitsOfSteps meets limits exactly and exceeds them by a step.
func TestLimitsOfSteps(t *testing.T) {
	q27 := strings.Repeat("d!d.", 26) + "0"
	tests := strings.Repeat("[b=c]", 53) + "~.0"
	letters24 := strings.TrimSuffix(letters25, "y!y.0") + "0"
	for _, c := range []struct{ p, want string }{ // nothing is wanted if the result is no process, or beyond a limit
		// MaxFront signs # at the front
		{"#x.#y.~.#c.#d.#e.x!c.y!d.e!e.0", "#a.#b.#c.#d.#e.a!b.c!d.e!e.0"},
		{"#x.#y.~.#c.#d.#e.#f.x!c.y!d.e!f.0", ""},
		{"(a!b.#c.#d.#e.c!d.e!e.0&a?x.#c.#d.c!d.0)", "#a.#b.#c.#d.#e.(a!b.0&c!d.e!e.0)"},
		{"(a!b.#c.#d.#e.c!d.e!e.0&a?x.#c.#d.#e.c!d.e!e.0)", ""},
		{"(~.#c.#d.#e.c!d.e!e.0+~.#c.#d.c!d.0)", "#a.#b.#c.a!b.c!c.0 #a.#b.a!b.0"},
		// one of two results has more
		{"#f.#g.#h.(f!g.h!h.0&(~.#c.#d.#e.c!d.e!e.0+~.#c.#d.c!d.0))", ""},
		{"((a!a.0+a!b.#c.#d.#e.c!d.e!e.0)&a?x.#c.#d.#e.c!d.e!e.0)", ""},
		// # that are left out do not count
		{"#x.#y.#z.#w.(~.#c.#d.0&x!y.z!w.0)", "#a.#b.#c.#d.a!b.c!d.0"},
		{"#x.#y.(a!x.0&a?z.#c.#d.#e.#f.c!d.e!f.0)", "#a.#b.#c.#d.a!b.c!d.0"},
		// MaxOwn in all
		{"(*a?x.b?y.#c.#d.#e.#f.c!d.e!f.0&a!a.0)", "(*a?c.b?d.#e.#f.#g.#h.e!f.g!h.0&b?c.#d.#e.#f.#g.d!e.f!g.0)"},
		{"(*a?x.b?y.#c.#d.#e.#f.c!d.e!f.0&#z.a!z.z!z.0)", ""},
		{"(*a?x.b?y.#c.#d.#e.#f.c!d.e!f.0&#z.a!z.0)", "(*a?c.b?d.#e.#f.#g.#h.e!f.g!h.0&b?c.#d.#e.#f.#g.d!e.f!g.0)"},
		// signs
		{"(a!b.~.0&*a?x." + q27 + ")", "(*a?b." + q27 + "&(" + q27 + "&~.0))"},
		{"(a!b.~.~.0&*a?x." + q27 + ")", ""},
		// the result is a process, though (Q&*a?x.Q) as it stands is none
		{"(a!b.0&*a?c." + tests + ")", "(*a?c." + tests + "&~.0)"},
		// letters
		{"(~.#x.x!x.0&(b?y.0&" + letters24 + "))", "#y.(" + letters24 + "&(b?z.0&y!y.0))"},
		{"(~.#x.x!x.0&(b?y.0&" + letters25 + "))", ""},
		{"(~.~.0&(b?y.0&" + letters25 + "))", "(" + letters25 + "&(b?z.0&~.0))"},
	} {
		if simple, ok := impl.IsSimple(c.p); !simple || !ok {
			t.Error("not simple:", c.p)
		}
		if c.want != "" {
			checkReductions(t, c.p, c.want)
			continue
		}
		checkNoReductions(t, c.p)
		checkStart(t, c.p)
		// the same, one step later
		if n, ok := impl.CountReductions("~." + c.p); n != 1 || !ok {
			t.Error("first step:", c.p, n, ok)
		}
		checkNoRuns(t, "~."+c.p)
		if run, ok := impl.RunBy("~."+c.p, []int{0, 0}); run != nil || ok {
			t.Error("second step:", c.p, run, ok)
		}
	}
}

// checkStart checks what is told of a process whose reductions fail.
func checkStart(t *testing.T, p string) {
	t.Helper()
	normal, _ := impl.NormalForm(p)
	if run, ok := impl.RunBy(p, nil); len(run) != 1 || run[0] != normal || !ok {
		t.Error("no choices:", p, run, ok)
	}
	if _, ok := impl.SendsOf(p); !ok {
		t.Error("sends:", p)
	}
	if _, ok := impl.ReceivesOf(p); !ok {
		t.Error("receives:", p)
	}
}

// TestLimitsOfRuns counts steps on which more and more # are needed.
func TestLimitsOfRuns(t *testing.T) {
	sends := func(n int) string { return strings.Repeat("(a!a.0&", n) + "0" + strings.Repeat(")", n) }
	for _, c := range []struct {
		repeated string
		most     int // steps within the limits
	}{
		{"*a?x.#c.#d.c!d.0", 2},                        // 2, 4, 6 at the front
		{"*a?x.b?y.#c.#d.c!d.0", 3},                    // 2, 4, 6, 8, 10 in all
		{"*a?x.b?y.#c.#d.#e.c!d.e!e.0", 1},             // 3, 6, 9 in all
		{"*a?x.#c.c!c.0", 5},                           // 1 to 6 at the front
		{"*a?x." + strings.Repeat("b!x.", 9) + "0", 4}, // 12, 23, 34, 45, 56 and more signs
	} {
		for n := 1; n <= c.most; n++ {
			p := "(" + c.repeated + "&" + sends(n) + ")"
			list, ok := impl.ReachedFrom(p)
			steps, okLongest := impl.LongestRun(p)
			if len(list) != n+1 || steps != n || !ok || !okLongest {
				t.Error(p, list, steps, ok)
			}
		}
		p := "(" + c.repeated + "&" + sends(c.most+1) + ")"
		checkNoRuns(t, p)
		if run, ok := impl.RunBy(p, make([]int, c.most)); len(run) != c.most+1 || !ok {
			t.Error(p, run, ok)
		}
		if run, ok := impl.RunBy(p, make([]int, c.most+1)); run != nil || ok {
			t.Error(p, run, ok)
		}
	}
	checkNoRuns(t, growing)
}

// TestMaxReached reaches 60 processes, and 61 or more.
func TestMaxReached(t *testing.T) {
	chain := func(n int) string { return strings.Repeat("~.", n) }
	both := "(" + chain(5) + "a!a.0&" + chain(9) + "b!b.0)"
	for p, longest := range map[string]int{chain(59) + "0": 59, both: 14, "(" + both + "&c?x.~.0)": 14} {
		list, ok := impl.ReachedFrom(p)
		n, okLongest := impl.LongestRun(p)
		if len(list) != impl.MaxReached || n != longest || !ok || !okLongest {
			t.Error(p, len(list), n, ok, okLongest)
		}
	}
	for _, p := range []string{"~." + both, "(~.c!c.0+~." + both + ")", "(" + chain(7) + "a!a.0&" + chain(7) + "b!b.0)", "(" + chain(12) + "a!a.0&(" + endless + "&(b!a.~.~.~.0&b?x.x!x.0)))"} {
		if _, ok := impl.ReductionsOf(p); !ok {
			t.Error("first step:", p)
		}
		if run, ok := impl.RunBy(p, make([]int, 5)); len(run) != 6 || !ok {
			t.Error("run:", p, run, ok)
		}
		checkNoRuns(t, p)
	}
}

// checkNoRuns checks that all that follows all runs fails.
func checkNoRuns(t *testing.T, p string) {
	t.Helper()
	lists := map[string]func(string) ([]string, bool){"ReachedFrom": impl.ReachedFrom, "StuckFrom": impl.StuckFrom}
	for name, f := range lists {
		if list, ok := f(p); len(list) != 0 || ok {
			t.Errorf("%s(%.40q): %q %v", name, p, list, ok)
		}
	}
	flags := map[string]func(string) (bool, bool){"CanGoOn": impl.CanGoOn, "IsDeterminate": impl.IsDeterminate}
	for name, f := range flags {
		if b, ok := f(p); b || ok {
			t.Errorf("%s(%.40q): %v %v", name, p, b, ok)
		}
	}
	if n, ok := impl.LongestRun(p); n != 0 || ok {
		t.Errorf("LongestRun(%.40q): %d %v", p, n, ok)
	}
	if n, ok := impl.StepsTo(p, p); n != 0 || ok {
		t.Errorf("StepsTo(%.40q) itself: %d %v", p, n, ok)
	}
}

// checkNoReductions checks that all that takes a step fails.
func checkNoReductions(t *testing.T, p string) {
	t.Helper()
	checkNoRuns(t, p)
	if list, ok := impl.ReductionsOf(p); len(list) != 0 || ok {
		t.Errorf("ReductionsOf(%.40q): %q %v", p, list, ok)
	}
	if n, ok := impl.CountReductions(p); n != 0 || ok {
		t.Errorf("CountReductions(%.40q): %d %v", p, n, ok)
	}
	if b, ok := impl.IsStuck(p); b || ok {
		t.Errorf("IsStuck(%.40q): %v %v", p, b, ok)
	}
	if run, ok := impl.RunBy(p, []int{0}); len(run) != 0 || ok {
		t.Errorf("RunBy(%.40q): %q %v", p, run, ok)
	}
}

func TestNoArgumentsOfChapter3(t *testing.T) {
	for _, p := range slices.Concat(noProcesses(), notSimple(), beyondLimits()) {
		checkNoReductions(t, p)
		for _, choices := range [][]int{nil, {0}, {-1}, make([]int, 20), make([]int, 21)} {
			if run, ok := impl.RunBy(p, choices); len(run) != 0 || ok {
				t.Errorf("RunBy(%.40q): %q %v", p, run, ok)
			}
		}
		for name, f := range map[string]func(string) (string, bool){"SendsOf": impl.SendsOf, "ReceivesOf": impl.ReceivesOf} {
			if s, ok := f(p); s != "" || ok {
				t.Errorf("%s(%.40q): %q %v", name, p, s, ok)
			}
		}
	}
}
