package tests

import (
	"slices"
	"strings"
	"testing"

	"loop.example/g01175/impl"
)

// classesTold writes classes with a bar between them.
func classesTold(classes [][]string) string {
	var told []string
	for _, class := range classes {
		told = append(told, strings.Join(class, " "))
	}
	return strings.Join(told, " | ")
}

// checkClasses checks the classes of a process, of which none is written into through another one.
func checkClasses(t *testing.T, p, want string) {
	t.Helper()
	for range 2 {
		classes, ok := impl.WeakClasses(p)
		if classesTold(classes) != want || !ok {
			t.Error(p, "has", classesTold(classes), ok)
		}
		for i, class := range classes {
			kept := classesTold(classes[i+1:])
			for j := range class {
				class[j] = "changed"
			}
			_ = append(append(class, "more"), class...)
			if classesTold(classes[i+1:]) != kept {
				t.Error(p, "has classes that share memory:", classes)
			}
		}
	}
}

func TestWeakClasses(t *testing.T) {
	half := "(*a?e.b!e.0&(a!c.0&b!d.0)) (*a?e.b!e.0&(a!d.0&b!c.0))"
	for _, c := range [][2]string{
		// one class
		{"0", "0"},
		{"(0&#x.0)", "0"},
		{"a!b.0", "a!b.0"},
		{"~.a!b.0", "a!b.0 ~.a!b.0"},
		{"~.~.~.0", "0 ~.0 ~.~.0 ~.~.~.0"},
		{"(~.a!b.0+~.a!c.0)", "(~.a!b.0+~.a!c.0) a!b.0 a!c.0"},
		{endless, "(*a?b.a!b.0&a!a.0)"},
		{inTurns, oneTurn + " " + another},
		{"(~." + hidden + "+~.~.0)", "#a.(*a?b.a!b.0&a!a.0) (~.#a.(*a?b.a!b.0&a!a.0)+~.~.0) 0 ~.0"},
		// several
		{"(a!b.0+~.0)", "(a!b.0+~.0) | 0"},
		{twoWays, "((a?d.d!c.0+~.0)&a!b.0) | a!b.0 | b!c.0"},
		{served, "(*a?e.b!e.0&(a!c.0&a!d.0)) " + half + " | " + allDone},
		{"(~.a!a.0+(~.b!b.0+~.~.a!a.0))", "(~.a!a.0+(~.b!b.0+~.~.a!a.0)) | a!a.0 ~.a!a.0 | b!b.0"},
		{"(~.~.b!b.0+(~.a!a.0+~.~.a!c.0))", "(~.a!a.0+(~.~.a!c.0+~.~.b!b.0)) | a!a.0 a!c.0 ~.a!c.0 | b!b.0 ~.b!b.0"},
		{"(~.~.(a!b.0&a?x.0)+~.~.~.c!c.0)", "(a!b.0&a?c.0) ~.(a!b.0&a?c.0) | (~.~.(a!b.0&a?d.0)+~.~.~.c!c.0) | 0 | c!c.0 ~.c!c.0 ~.~.c!c.0"},
		{"(" + endless + "&a?x.0)", "(*a?b.a!b.0&(a!a.0&a?b.0)) | *a?b.a!b.0"},
		// the same weak barbs in several
		{"(~.(~.0+~.a!b.0)+~.(a!b.0+~.0))", "(a!b.0+~.0) | (~.(a!b.0+~.0)+~.(~.0+~.a!b.0)) | (~.0+~.a!b.0) | 0 | a!b.0"},
		{"(~.~.(~.0+~.a!b.0)+~.(~.0+~.a!c.0))", "(~.(~.0+~.a!c.0)+~.~.(~.0+~.a!b.0)) (~.0+~.a!b.0) (~.0+~.a!c.0) ~.(~.0+~.a!b.0) | 0 | a!b.0 a!c.0"},
	} {
		checkClasses(t, c[0], c[1])
	}
}

// checkNoWeb checks that all that follows the runs of one process fails.
func checkNoWeb(t *testing.T, p string) {
	t.Helper()
	if s, ok := impl.WeakSends(p); s != "" || ok {
		t.Errorf("WeakSends(%.40q): %q %v", p, s, ok)
	}
	if s, ok := impl.WeakReceives(p); s != "" || ok {
		t.Errorf("WeakReceives(%.40q): %q %v", p, s, ok)
	}
	if classes, ok := impl.WeakClasses(p); len(classes) != 0 || ok {
		t.Errorf("WeakClasses(%.40q): %q %v", p, classes, ok)
	}
}

// checkNotCompared checks that all that compares two processes fails.
func checkNotCompared(t *testing.T, p, q string) {
	t.Helper()
	for _, c := range [][2]string{{p, q}, {q, p}} {
		if is, ok := impl.AreWeaklyAlike(c[0], c[1]); is || ok {
			t.Errorf("AreWeaklyAlike(%.40q): %v %v", c, is, ok)
		}
		if n, ok := impl.WeakDepth(c[0], c[1]); n != 0 || ok {
			t.Errorf("WeakDepth(%.40q): %d %v", c, n, ok)
		}
		if s, ok := impl.FirstBarb(c[0], c[1]); s != "" || ok {
			t.Errorf("FirstBarb(%.40q): %q %v", c, s, ok)
		}
	}
}

// checkNoTest checks that all that tests a process fails.
func checkNoTest(t *testing.T, p, test string) {
	t.Helper()
	for _, c := range [][2]string{{p, test}, {test, p}} {
		if is, ok := impl.MayPass(c[0], c[1]); is || ok {
			t.Errorf("MayPass(%.40q): %v %v", c, is, ok)
		}
		if is, ok := impl.MustPass(c[0], c[1]); is || ok {
			t.Errorf("MustPass(%.40q): %v %v", c, is, ok)
		}
		if run, ok := impl.RunWithoutPass(c[0], c[1]); len(run) != 0 || ok {
			t.Errorf("RunWithoutPass(%.40q): %q %v", c, run, ok)
		}
		for _, tests := range [][]string{{c[1]}, {"0", c[1]}, {c[1], "0"}} {
			if list, ok := impl.PassedTests(c[0], tests); len(list) != 0 || ok {
				t.Errorf("PassedTests(%.40q): %d %v", c, list, ok)
			}
		}
	}
}

// chains returns two chains of silent steps in front of what is behind them, which reach n and m processes.
func chains(n, m int, one, other string) (string, string) {
	return strings.Repeat("~.", n-1) + one, strings.Repeat("~.", m-1) + other
}

// chainsBeside returns both side by side: they reach n times m processes.
func chainsBeside(n, m int, one, other string) string { return sideBySide(chains(n, m, one, other)) }

// TestMaxReachedByTests reaches 60 processes with a test, and 61 or more.
func TestMaxReachedByTests(t *testing.T) {
	for _, c := range [][2]int{{6, 10}, {10, 6}, {5, 12}, {4, 15}, {3, 20}, {2, 30}} {
		p, test := chains(c[0], c[1], "a!a.0", "w!b.0")
		checkVerdict(t, p, test, 2, "")
		p, test = chains(c[0], c[1], "a!a.0", "b!b.0")
		list, ok := impl.RunWithoutPass(p, test)
		if len(list) != c[0]+c[1]-1 || list[len(list)-1] != "(a!a.0&b!b.0)" || !ok {
			t.Error(p, test, list, ok)
		}
		checkNoTest(t, "~."+p, test)
		checkNoTest(t, p, "~."+test)
		// though it is passed at once
		checkNoTest(t, "~."+p, "(w!b.0&"+test+")")
		checkNoTest(t, p, "(w!b.0+~."+test+")")
	}
	exact := chainsBeside(6, 10, "a!a.0", "w!b.0")
	checkVerdict(t, exact, "0", 2, "")
	checkVerdict(t, exact, "c?x.~.0", 2, "")
	checkNoTest(t, "~."+exact, "0") // one more
	checkNoTest(t, "(~.c!c.0+~."+exact+")", "0")
	checkVerdict(t, strings.Repeat("~.", 56)+"w!a.0", "0", 2, "")
	checkNoTest(t, growing, "0")
	checkNoTest(t, growing, "w!a.0")
	checkNoTest(t, "a!b.0", "(w!a.0&*a?x.(a!x.0&c!x.0))")
}

// TestMaxReachedByTwo compares processes that reach 60 each, and ones that reach more.
func TestMaxReachedByTwo(t *testing.T) {
	both := chainsBeside(6, 10, "a!a.0", "b!b.0")
	silent := strings.Repeat("~.", 59) + "0"
	for _, p := range []string{both, silent} {
		list, ok := impl.ReachedFrom(p)
		if len(list) != impl.MaxReached || !ok {
			t.Error(p, len(list), ok)
		}
		checkClasses(t, p, strings.Join(list, " "))
	}
	checkApart(t, both, "(b!b.0&a!a.0)", -1, "")
	checkApart(t, both, chainsBeside(10, 6, "a!a.0", "b!b.0"), -1, "")
	checkApart(t, both, chainsBeside(6, 10, "a!a.0", "(b!b.0+b!c.0)"), -1, "")
	checkApart(t, both, chainsBeside(6, 10, "a!a.0", "a!b.0"), 0, "!b")
	checkApart(t, both, chainsBeside(6, 9, "a!a.0", "b?x.0"), 0, "!b")
	checkApart(t, both, chainsBeside(4, 5, "a!a.0", "(b!b.0+~.0)"), 5, "")
	if is, ok := impl.AreWeaklyAlike(silent, silent); !is || !ok {
		t.Error(silent, is, ok)
	}
	if s, ok := impl.FirstBarb(both, silent); s != "!a" || !ok {
		t.Error(s, ok)
	}
	if s, ok := impl.WeakSends(both); s != "ab" || !ok {
		t.Error(both, s, ok)
	}
	for _, p := range []string{"~." + both, chainsBeside(7, 9, "a!a.0", "b!b.0"), "(~.c!c.0+~." + both + ")", "(a!a.0+~.~." + both + ")", growing} {
		checkNoWeb(t, p)
		for _, q := range []string{"0", "~.a!b.0", both, endless, p} {
			checkNotCompared(t, p, q)
		}
	}
}

// owns has so many # at its front.
func owns(n int) string {
	front, behind := "", "z!z.0"
	for i := range n {
		a := alphabet[i : i+1]
		front += "#" + a + "."
		behind = a + "!z." + behind
	}
	return front + behind
}

// TestLimitsOfBoth has processes and tests that are side by side no process, or beyond a limit.
func TestLimitsOfBoth(t *testing.T) {
	sends := func(n int) string { return strings.Repeat("b!c.", n) + "0" }
	nothing := func(n int) string { return strings.Repeat("(0&", n) + "0" + strings.Repeat(")", n) }
	inner := func(n int) string { return "z!z." + owns(n) }
	for _, c := range []struct{ p, good, bad string }{
		// signs, though most of them may be left out
		{sends(28), sends(29), sends(30)},
		{sends(57), "0", "z!z.0"},
		{sends(58), "", "0"},
		{nothing(14), "z!z." + nothing(14), nothing(15)},
		{nothing(20), "z!z." + nothing(8), nothing(9)},
		{nothing(29), "", "0"},
		{strings.Repeat("[a=b]", 29) + "0", strings.Repeat("[c=d]", 28) + "0", strings.Repeat("[c=d]", 29) + "0"},
		// # at the front
		{owns(5), "z!z.0", owns(1)},
		{owns(3), owns(2), owns(3)},
		{owns(1), owns(4), owns(5)},
		// # in all
		{inner(4), inner(4), inner(5)},
		{inner(5), owns(3), owns(4)},
		{"(" + inner(3) + "+" + inner(5) + ")", "z!z.0", "#a.a!a.0"},
		// letters
		{letters25, "z!z.0", "z?x.0"},
		{letters25, "b?x.0", "b?x.b?y.0"},
		{letters24, "b?x.b?y.0", "b?x.b?y.b?x.0"},
		{letters24, "z?x.0", "z?x.z?y.0"},
	} {
		if c.good != "" {
			normal, ok := impl.NormalForm("(" + c.p + "&" + c.good + ")")
			if !ok {
				t.Error("no normal form:", c.p, c.good)
			}
			checkVerdict(t, c.p, c.good, 0, normal)
		}
		for _, p := range []string{c.p, c.bad} {
			if s, ok := impl.WeakSends(p); !ok {
				t.Error("alone:", p, s)
			}
		}
		checkNoTest(t, c.p, c.bad)
	}
}

// TestLimitsOnTheWay has processes and tests that exceed a limit behind some step alone.
func TestLimitsOnTheWay(t *testing.T) {
	for _, c := range [][2]string{
		{"~." + owns(3), "~." + owns(3)},
		{"a!b." + owns(2), "(w!z.0&a?x." + owns(4) + ")"},
		{"(~.0+~." + owns(5) + ")", "#x.(x!a.0&w!x.0)"},
		{"(a!b.0&*a?x.#c.#d.(c!d.0&a!d.0))", "w!a.0"},
	} {
		checkNoTest(t, c[0], c[1])
		checkNoWeb(t, sideBySide(c[0], c[1]))
	}
	checkVerdict(t, "a!b."+owns(2), "(w!z.0&a?x."+owns(3)+")", 2, "")
}

func TestNoArgumentsOfChapter9(t *testing.T) {
	for _, bad := range slices.Concat(noProcesses(), notSimple(), beyondLimits()) {
		checkNoWeb(t, bad)
		for _, p := range []string{"0", "~.0", "w!a.0", twoWays, endless, bad} {
			checkNotCompared(t, p, bad)
			checkNoTest(t, p, bad)
		}
	}
	// texts that are processes only if they are put together
	for _, c := range [][2]string{{"0&0)", "(0"}, {"(0", "0)"}, {"0&(0", "0)"}, {"(0&0)&(0", "0)"}, {"0)&(0", "0"}} {
		checkNoTest(t, c[0], c[1])
	}
}
