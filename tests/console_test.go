package tests

import (
	"slices"
	"strings"
	"testing"

	"loop.example/g01175/impl"
)

// manyReached reaches 64 processes, which are more than MaxReached.
const manyReached = "(~.~.~.~.~.~.~.a!a.0&~.~.~.~.~.~.~.b!b.0)"

// kept tells that a process stays as it is.
const kept = ""

// checkLine checks what one line does to a process.
func checkLine(t *testing.T, p, line, behind, reply string) {
	t.Helper()
	if behind == kept {
		behind = p
	}
	for range 2 {
		q, s, ok := impl.DeskLine(p, line)
		if q != behind || s != reply || !ok {
			t.Errorf("%s, %.60q: %s, %q, %v", p, line, q, s, ok)
		}
	}
}

// checkNoLine checks that a process with a line is refused as an argument.
func checkNoLine(t *testing.T, p, line string) {
	t.Helper()
	if q, s, ok := impl.DeskLine(p, line); q != "" || s != "" || ok {
		t.Errorf("%.40q, %.60q: %q, %q, %v", p, line, q, s, ok)
	}
}

// scriptOf ends each line by a newline.
func scriptOf(lines ...string) string {
	s := ""
	for _, line := range lines {
		s += line + "\n"
	}
	return s
}

// failedAmong returns the numbers of the replies that refuse.
func failedAmong(replies []string) []int {
	var numbers []int
	for i, reply := range replies {
		if reply == "no" || reply == "what" {
			numbers = append(numbers, i+1)
		}
	}
	return numbers
}

// checkScript checks all that is told of a script, twice, as lists that are changed change no others.
func checkScript(t *testing.T, s, behind string, replies ...string) {
	t.Helper()
	for range 2 {
		list, ok := impl.RunScript(s)
		if !slices.Equal(list, replies) || !ok {
			t.Errorf("%.80q: %q %v", s, list, ok)
		}
		numbers, ok := impl.FailedLines(s)
		if !slices.Equal(numbers, failedAmong(replies)) || !ok {
			t.Errorf("%.80q: %v %v", s, numbers, ok)
		}
		for i := range list {
			list[i] = "changed"
		}
		for i := range numbers {
			numbers[i] = -1
		}
		if p, ok := impl.DeskAfter(s); p != behind || !ok {
			t.Errorf("%.80q: %s %v", s, p, ok)
		}
	}
}

// checkNoScript checks that a text is refused as a script.
func checkNoScript(t *testing.T, s string) {
	t.Helper()
	if list, ok := impl.RunScript(s); len(list) != 0 || ok {
		t.Errorf("%.60q: %.60q %v", s, list, ok)
	}
	if numbers, ok := impl.FailedLines(s); len(numbers) != 0 || ok {
		t.Errorf("%.60q: %v %v", s, numbers, ok)
	}
	if p, ok := impl.DeskAfter(s); p != "" || ok {
		t.Errorf("%.60q: %s %v", s, p, ok)
	}
}

func TestFirstDesk(t *testing.T) {
	if p := impl.FirstDesk(); p != twoWays || !impl.IsProcess(p) {
		t.Error(p)
	}
}

func TestExampleOfChapter10(t *testing.T) {
	s := scriptOf("next", "free", "longest", "sends", "go 1", "hide b", "stuck", "fly")
	checkScript(t, s, "#a.a!c.0", "a!b.0 b!c.0", "abc", "1", "a", "b!c.0", "#a.a!c.0", "#a.a!c.0", "what")
	if numbers, ok := impl.FailedLines(s); !slices.Equal(numbers, []int{8}) || !ok {
		t.Error(numbers, ok)
	}
}

// TestLinesWithEffects has each line of the table that has one.
func TestLinesWithEffects(t *testing.T) {
	for _, c := range [][3]string{
		{"0", "take a!b.0", "a!b.0"},
		{"0", "take 0", "0"},
		{twoWays, "take (0+(0&0))", "(0+(0&0))"}, // as it is told
		{"0", "take **0", "**0"},
		{"0", "take " + growing, growing},
		{"0", "take " + letters26, letters26},
		{"0", "beside a!b.0", "a!b.0"},
		{"b!a.0", "beside a!b.0", "(a!b.0&b!a.0)"},
		{"a!b.0", "beside 0", "a!b.0"},
		{"*0", "beside *~.0", "*~.0"},
		{"#x.a!x.0", "beside #x.b!x.0", "#c.#d.(a!c.0&b!d.0)"},
		{"0", "or a!b.0", "a!b.0"},
		{"b!a.0", "or a!b.0", "(a!b.0+b!a.0)"},
		{"(~.0&~.0)", "or 0", "(~.0&~.0)"},
		{"(~.0&~.0)", "or a!b.0", "((~.0&~.0)+a!b.0)"},
		{"a!b.0", "hide a", "#a.a!b.0"},
		{"a!b.0", "hide b", "#b.a!b.0"},
		{"(c!b.0&c!a.0)", "hide b", "#b.(c!a.0&c!b.0)"},
		{"(c!b.0&c!a.0)", "hide z", "(c!a.0&c!b.0)"}, // the normal form, too
		{"a!b.0", "rename a b", "b!b.0"},
		{"a!b.0", "rename b a", "a!a.0"},
		{"a!b.0", "rename a z", "z!b.0"},
		{"a!b.0", "rename b b", "a!b.0"},
		{"(a!b.0&0)", "rename c d", "(a!b.0&0)"},
		{example, "rename a b", "b?x.(x!b.0&#b.b!x.0)"},
		{example, "rename b x", "a?a.(a!x.0&#b.b!a.0)"},
		{scattered, "normal", "#c.(a!c.0&b?d.0)"},
		{"(0+(0&0))", "normal", "0"},
		{"a!b.0", "normal", "a!b.0"},
		{"a?x.x!b.0", "names", "a?c.c!b.0"},
		{scattered, "names", "(#c.(a!c.0&0)&#d.(b?e.0+0))"}, // not the normal form
		{"(0&0)", "names", "(0&0)"},
		{twoWays, "go 0", "a!b.0"},
		{twoWays, "go 1", "b!c.0"},
		{served, "go 0", "(*a?e.b!e.0&(a!c.0&b!d.0))"},
		{served, "go 1", "(*a?e.b!e.0&(a!d.0&b!c.0))"},
		{endless, "go 0", "(*a?b.a!b.0&a!a.0)"},
	} {
		checkLine(t, c[0], c[1], c[2], c[2])
	}
}

// TestLinesThatAsk has each line of the table that changes nothing.
func TestLinesThatAsk(t *testing.T) {
	for _, c := range [][3]string{
		{twoWays, "show", twoWays},
		{"(0&0)", "show", "(0&0)"},
		{letters26, "show", letters26},
		{twoWays, "free", "abc"},
		{letters26, "free", alphabet},
		{"a!a.0", "free", "a"},
		{"#x.x!x.0", "free", "-"},
		{"0", "free", "-"},
		{"(a?z.0&#a.a?b.0)", "bound", "abz"},
		{twoWays, "bound", "x"},
		{"a!b.0", "bound", "-"},
		{twoWays, "threads", "(a?d.d!c.0+~.0) a!b.0"},
		{"#x.(a!x.0&(0&x!b.0))", "threads", "a!c.0 c!b.0"},
		{"(~.0&~.0)", "threads", "~.0 ~.0"},
		{"a!b.0", "threads", "a!b.0"},
		{"(0&#x.0)", "threads", "-"},
		{twoWays, "parts", "(a?b.b!c.0+~.0) a!b.0"},
		{scattered, "parts", "#b.a!b.0 b?a.0"},
		{"#x.(a!x.0&x!b.0)", "parts", "#c.(a!c.0&c!b.0)"},
		{"(~.0&~.0)", "parts", "~.0 ~.0"},
		{"0", "parts", "-"},
		{twoWays, "next", "a!b.0 b!c.0"},
		{"~.0", "next", "0"},
		{"a!b.0", "next", "-"},
		{"0", "next", "-"},
		{twoWays, "all", "((a?d.d!c.0+~.0)&a!b.0) a!b.0 b!c.0"},
		{"~.~.0", "all", "0 ~.0 ~.~.0"},
		{"(0&0)", "all", "0"},
		{endless, "all", "(*a?b.a!b.0&a!a.0)"},
		{twoWays, "stuck", "a!b.0 b!c.0"},
		{served, "stuck", allDone},
		{"0", "stuck", "0"},
		{endless, "stuck", "-"},
		{twoWays, "longest", "1"},
		{served, "longest", "2"},
		{"0", "longest", "0"},
		{strings.Repeat("~.", 59) + "0", "longest", "59"},
		{"(c!b.0&(a!b.0+~.b!b.0))", "sends", "ac"},
		{"#a.a!b.0", "sends", "-"},
		{"a?x.0", "sends", "-"},
		{"0", "sends", "-"},
		{"(c?b.0&*a?b.b?c.0)", "receives", "ac"},
		{twoWays, "receives", "a"},
		{"a!b.0", "receives", "-"},
		{"0", "receives", "-"},
		{truth("a", true), "truth a", "yes"},
		{truth("a", false), "truth a", "not"},
		{sideBySide(truth("z", true), truth("b", false)), "truth z", "yes"},
		{sideBySide(truth("z", true), truth("b", false)), "truth b", "not"},
		{sideBySide(not("a", "b"), truth("b", true)), "truth a", "not"},
		{sideBySide(not("a", "b"), truth("b", true)), "truth b", "yes"},
	} {
		checkLine(t, c[0], c[1], kept, c[2])
	}
}

// TestCallsThatFail has lines of the table whose call fails, or has no such result.
func TestCallsThatFail(t *testing.T) {
	twice := "a?z.a?z." + letters25
	for _, c := range [][2]string{
		// a result that is no process, or beyond a limit
		{silents(30), "beside " + silents(29)},
		{owns(3), "beside " + owns(3)},
		{letters26, "beside a?x.0"},
		{silents(30), "or " + silents(29)},
		{"~." + owns(4), "or ~." + owns(5)},
		{letters26, "or a?x.0"},
		{strings.Repeat("a!b.", 59) + "0", "hide a"},
		{owns(5), "hide z"},
		{"a?z." + letters25, "rename a z"},
		{twice, "normal"},
		{twice, "names"},
		{twice, "threads"},
		{twice, "parts"},
		{owns(6), "normal"},
		// no such reduction
		{twoWays, "go 2"},
		{twoWays, "go 999999"},
		{served, "go 2"},
		{"~.0", "go 1"},
		{"0", "go 0"},
		{"0", "go 999999"},
		// more than MaxReached, or a limit behind a step
		{manyReached, "all"},
		{manyReached, "stuck"},
		{manyReached, "longest"},
		{growing, "all"},
		{"(a!b.0&a?x." + owns(6) + ")", "next"},
		// runs without end
		{endless, "longest"},
		{inTurns, "longest"},
		// no truth value, or two
		{"0", "truth a"},
		{twoWays, "truth a"},
		{truth("a", true), "truth b"},
		{sideBySide(truth("a", true), truth("a", false)), "truth a"},
	} {
		if !impl.IsProcess(c[0]) {
			t.Error("no process:", c[0])
		}
		checkLine(t, c[0], c[1], kept, "no")
	}
}

// linesOfTable has a line for each row of the table.
func linesOfTable() []string {
	return []string{
		"take 0", "beside b!a.0", "or b!a.0", "hide a", "rename a z", "normal", "names", "go 0",
		"show", "free", "bound", "threads", "parts", "next", "all", "stuck", "longest", "sends", "receives", "truth a",
	}
}

// checkFailingLines checks which lines of the table fail.
func checkFailingLines(t *testing.T, p string, fail []string) {
	t.Helper()
	for _, line := range linesOfTable() {
		word, _, _ := strings.Cut(line, " ")
		fails := slices.Contains(fail, word)
		q, reply, ok := impl.DeskLine(p, line)
		if (reply == "no") != fails || fails && q != p || reply == "what" || !ok {
			t.Error(p, line, q, reply, ok)
		}
	}
}

// TestSomeCallsFail has processes for which some calls fail, beside others that do not.
func TestSomeCallsFail(t *testing.T) {
	runs := []string{"all", "stuck", "longest", "truth"}
	steps := append([]string{"next", "go", "sends", "receives"}, runs...)
	joins := []string{"beside", "or", "hide"}
	forms := append([]string{"normal", "threads", "parts"}, joins...)
	for _, c := range []struct {
		p    string
		fail []string
	}{
		{twoWays, []string{"truth"}},
		{truth("a", true), []string{"go"}}, // which is stuck
		{endless, []string{"longest", "truth"}},
		{growing, runs},
		{manyReached, runs},
		{"a?z." + letters25, []string{"go", "rename", "truth"}},
		{"a?z.a?z." + letters25, slices.Concat([]string{"names", "rename"}, forms, steps)},
		{"(~.0&" + letters26 + ")", []string{"truth"}},
		{"(" + strings.Repeat("a!a.", 29) + "0&" + strings.Repeat("a!a.", 28) + "0)", append([]string{"go", "truth"}, joins...)},
		{owns(6), append(steps, forms...)},
	} {
		checkFailingLines(t, c.p, c.fail)
	}
	for _, p := range notSimple() {
		checkFailingLines(t, p, steps)
	}
}
