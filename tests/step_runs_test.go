package tests

import (
	"math"
	"slices"
	"strings"
	"testing"

	"loop.example/g01175/impl"
)

func TestAfterLabels(t *testing.T) {
	sends := func(n int) string { return strings.Repeat("a!a.", n) + "0" }
	threes := "(~.a!a.0&(~.b!b.0&~.c!c.0))"
	for _, c := range []struct{ p, labels, want string }{
		// no labels
		{"0", "", "0"},
		{"(#x.a!x.0&0)", "", "#b.a!b.0"},
		{letters26, "", letters26},
		// one after the other
		{"a?x.x!b.0", "a?z z!b", "0"},
		{"a?x.x!b.0", "a?z z!z", ""},
		{"a?x.x!b.0", "z!b a?z", ""},
		{sender, "a!#z z?a", "0"},
		{"#x.a!x.x?y.y!x.0", "a!#c c?c c!c", "0"},
		{"#x.a!x.x?y.y!x.0", "a!#c c?d d!c", "0"},
		{"#x.a!x.x?y.y!x.0", "a!#c c?d c!d", ""},
		{"#x.a!x.a!x.0", "a!#b a!b", "0"},
		{"#x.a!x.a!x.0", "a!#b a!c", ""},
		{"#x.#y.a!x.a!y.x!y.0", "a!#b a!#c b!c", "0"},
		{"(a!b.0&a?x.x!c.0)", "~ b!c", "0"},
		{"*a?x.x!a.0", "a?b a?c", "(*a?d.d!a.0&(b!a.0&c!a.0))"},
		{"*a?x.x!a.0", "a?b a?c b!a c!a", "*a?b.b!a.0"},
		// all results
		{"(~.a!a.0+~.b!b.0)", "~", "a!a.0 b!b.0"},
		{"(~.a!a.0+~.b!b.0)", "~ a!a", "0"},
		{"(~.a!a.0+~.b!b.0)", "~ c!c", ""},
		{"(~.a!a.0+~.~.0)", "~ ~", "0"},
		{threes, "~ ~", "(a!a.0&(b!b.0&~.c!c.0)) (a!a.0&(c!c.0&~.b!b.0)) (b!b.0&(c!c.0&~.a!a.0))"},
		{threes, "~ ~ ~", "(a!a.0&(b!b.0&c!c.0))"},
		{threes, "~ a!a ~", "(b!b.0&~.c!c.0) (c!c.0&~.b!b.0)"},
		{"(a?x.x!b.0+a?x.b!x.0)", "a?c", "b!c.0 c!b.0"},
		{"(#x.a!x.x!x.0&#x.a!x.0)", "a!#c a!#b", "b!b.0 c!c.0"},
		// MaxLabels labels
		{sends(7), "a!a a!a a!a a!a a!a a!a", "a!a.0"},
		{sends(5), "a!a a!a a!a a!a a!a a!a", ""},
		// a name that is no longer free, or only free in a process that is not reached
		{"a!b.#x.a!x.0", "a!b a!#b", "0"},
		{"(~.#x.a!x.0+~.#x.a!x.c!c.0)", "~ a!#b", "0 c!c.0"},
		{"(~.#x.a!x.0+b!b.a!c.0)", "~ a!#b", "0"},
		// nothing is left that could send
		{"0", "~ a!#a", ""},
		{"a!b.0", "c!d a!#b", ""},
	} {
		checkAfter(t, c.p, strings.Fields(c.labels), c.want)
	}
	for _, c := range []struct{ p, labels string }{
		{sends(7), "a!a a!a a!a a!a a!a a!a a!a"},
		{"0", "~ ~ ~ ~ ~ ~ ~"},
		{"a!b.(#x.a!x.0&b!b.0)", "a!b a!#b"},
		{"a!b.(#x.a!x.0&b!b.0)", "a!b a!#a"},
		{"a!b.b!b.0", "a!b c!#b"},
		{"#x.#y.a!x.a!y.x!y.0", "a!#b a!#b"},
		// free in one of the results
		{"(~.#x.a!x.0+~.#x.a!x.c!c.0)", "~ a!#c"},
		{"(~.#x.a!x.0+~.c!c.0)", "~ a!#c"},
		{"a?x.#y.a!y.x!y.0", "a?b a!#b"},
		// no labels, even where nothing is left that they could be tried with
		{"0", "a#b"},
		{"0", "~ x"},
		{"a!b.0", "a!c a!b.0"},
		{"a!b.0", "a!b ~~"},
		{"0", "a!# ~"},
	} {
		if list, ok := impl.AfterLabels(c.p, strings.Fields(c.labels)); list != nil || ok {
			t.Error(c.p, c.labels, list, ok)
		}
	}
	checkAfter(t, "a!b.0", strings.Fields("a!b"), "0")
	for _, label := range noLabels() {
		for _, labels := range [][]string{{label}, {"~", label}, {label, "~"}} {
			if list, ok := impl.AfterLabels("(~.~.0&a!b.0)", labels); list != nil || ok {
				t.Errorf("%.40q: %v %v", labels, list, ok)
			}
		}
		if list, ok := impl.StepsWith("(~.0&a!b.0)", label); list != nil || ok {
			t.Errorf("%.40q: %v %v", label, list, ok)
		}
	}
}

func TestTraces(t *testing.T) {
	for _, c := range []struct {
		p    string
		n    int
		want string
	}{
		{"a!b.0", 0, ""},
		{"~.~.~.~.0", 0, ""},
		{"~.~.~.~.0", 1, "|~"},
		{"~.~.~.~.0", 2, "|~|~ ~"},
		{"~.~.~.~.0", 3, "|~|~ ~|~ ~ ~"},
		{"~.~.0", 3, "|~|~ ~"},
		{"a!b.c!d.e!f.g!g.0", 3, "|a!b|a!b c!d|a!b c!d e!f"},
		{"(~.0+a!b.~.0)", 3, "|a!b|a!b ~|~"},
		{"(a!a.0&b!b.0)", 3, "|a!a|a!a b!b|b!b|b!b a!a"},
		{"(a!a.b!b.0+a!a.c!c.0)", 2, "|a!a|a!a b!b|a!a c!c"},
		{"(a!a.a!a.0+a!a.b!b.0)", 2, "|a!a|a!a a!a|a!a b!b"},
		{"(~.a!a.0&~.b!b.0)", 2, "|~|~ a!a|~ b!b|~ ~"},
		{"*a?x.0", 2, "|a?a|a?a a?a|a?a a?b|a?b|a?b a?a|a?b a?b"},
		{sender, 1, "|a!#b"},
		{sender, 2, "|a!#b|a!#b b?a|a!#b b?b"},
		{echo, 1, "|a?a|a?b|a?c"},
		{echo, 3, "|a?a|a?a a!b|a?b|a?b b!b|a?c|a?c c!b"},
		// the new name of each process on the way
		{"a?x.#y.x!y.y!x.0", 3, "|a?a|a?a a!#b|a?a a!#b b!a|a?b|a?b b!#a|a?b b!#a a!b"},
		{"#x.(a!x.0&#y.a!y.0)", 3, "|a!#b|a!#b a!#b"},
		{"#x.#y.a!x.a!y.x!y.0", 3, "|a!#b|a!#b a!#c|a!#b a!#c b!c"},
		{"(a!b.0&#x.c!x.0)", 2, "|a!b|a!b c!#a|c!#d|c!#d a!b"},
		{letters26, 2, "|a!b|a!b c!d"},
		{endless, 2, "|a!a|a!a a?a|a!a a?b|a?a|a?a a!a|a?a a?a|a?a a?b|a?a ~|a?b|a?b a!a|a?b a!b|a?b a?a|a?b a?b|a?b a?c|a?b ~|~|~ a!a|~ a?a|~ a?b|~ ~"},
	} {
		checkTraces(t, c.p, c.n, c.want)
	}
	for _, n := range []int{-1, -2, 4, 5, math.MinInt, math.MaxInt, 1 << 32, 1<<32 + 1} {
		for _, p := range []string{"0", "a!b.0", endless} {
			if list, ok := impl.TracesOf(p, n); list != nil || ok {
				t.Error(p, n, list, ok)
			}
		}
	}
}

// sideBySide puts threads side by side.
func sideBySide(threads ...string) string {
	p := threads[len(threads)-1]
	for _, thread := range slices.Backward(threads[:len(threads)-1]) {
		p = "(" + thread + "&" + p + ")"
	}
	return p
}

// receiversOver has a thread for each name that receives over it.
func receiversOver(names string) []string {
	var threads []string
	for _, name := range names {
		threads = append(threads, string(name)+"?x.0")
	}
	return threads
}

// TestMaxTraces has 200 traces, and 201.
func TestMaxTraces(t *testing.T) {
	// 11 names are received on, and 17 are free: with the new one, 198 labels
	many := append(receiversOver("bcdefghijk"), "a?x.l!m.n!o.p!q.0")
	q198 := sideBySide(many...)
	// 9 and 20, and 8 names are sent: 197 labels
	few := append(receiversOver("bcdefghi"), "a?x.s!t.0")
	for _, name := range "jklmnopq" {
		few = append(few, "r!"+string(name)+".0")
	}
	q197 := sideBySide(few...)
	for _, c := range []struct {
		p       string
		n, want int // 0 if it fails
	}{
		{q198, 0, 1},
		{q198, 1, 199},
		{q198, 2, 0},
		{q197, 1, 198},
		{sideBySide(q198, "~.0"), 1, 200},
		{sideBySide(q198, "~.0"), 2, 0},
		{sideBySide(q198, "~.0", "l!a.0"), 1, 0},
		{sideBySide(q198, "(~.0+l!a.0)"), 0, 1},
		{"~." + q198, 1, 2},
		{"~." + q198, 2, 200},
		{"~." + q198, 3, 0},
		{"~." + sideBySide(q198, "~.0"), 2, 0},
		{"~.~." + q197, 2, 3},
		{"~.~." + q197, 3, 200},
		{"~.~." + q198, 3, 0},
		{"~.~." + q198, 2, 3},
	} {
		list, ok := impl.TracesOf(c.p, c.n)
		if len(list) != c.want || ok != (c.want > 0) {
			t.Error(c.p, c.n, len(list), ok)
		}
		if !slices.IsSorted(list) || len(slices.Compact(list)) != c.want {
			t.Error("not each once and in order:", list)
		}
		if _, ok := impl.StepsOf(c.p); !ok {
			t.Error("steps of", c.p)
		}
	}
	list, ok := impl.LabelsOf(sideBySide(q198, "~.0", "l!a.0"))
	if len(list) != 200 || !ok {
		t.Error("labels:", len(list), ok)
	}
}

// TestLimitsOfLabelledSteps meets limits exactly, and exceeds them by a step with the label that is bad.
func TestLimitsOfLabelledSteps(t *testing.T) {
	q26 := strings.Repeat("d!d.", 26) + "0"
	tests := strings.Repeat("[b=c]", 53) + "~.0"
	four := "*a?x.b?y.#c.#d.#e.#f.c!d.e!f.0"
	fourTwice := "(*a?c.b?d.#e.#f.#g.#h.e!f.g!h.0&b?c.#d.#e.#f.#g.d!e.f!g.0)"
	for _, c := range []struct{ p, good, want, bad string }{
		// MaxFront signs # at the front
		{"#c.#d.a!b.#e.#f.#g.c!d.e!f.g!g.0", "a!b", "#a.#b.#c.#d.#e.a!b.c!d.e!e.0", ""},
		{"#c.#d.a!b.#e.#f.#g.#h.c!d.e!f.g!h.0", "b!a", "", "a!b"},
		{"#x.#c.#d.#e.a!x.#f.#g.x!c.d!e.f!g.0", "a!#b", "#a.#c.#d.#e.#f.b!a.c!d.e!f.0", ""},
		{"#x.#c.#d.#e.a!x.#f.#g.#h.x!c.d!e.f!g.h!h.0", "b!#c", "", "a!#b"},
		{"#c.#d.a?x.#e.#f.#g.x!c.d!e.f!g.0", "a?b", "#a.#c.#d.#e.#f.b!a.c!d.e!f.0", ""},
		{"#c.#d.a?x.#e.#f.#g.#h.x!c.d!e.f!g.h!h.0", "b?a", "", "a?b"},
		{"#c.#d.~.#e.#f.#g.c!d.e!f.g!g.0", "~", "#a.#b.#c.#d.#e.a!b.c!d.e!e.0", ""},
		{"#c.#d.~.#e.#f.#g.#h.c!d.e!f.g!h.0", "b!a", "", "~"},
		// of two parts of a sum
		{"#c.#d.(b!a.c!d.0+a!b.#e.#f.#g.#h.c!d.e!f.g!h.0)", "b!a", "#a.#b.a!b.0", "a!b"},
		{"#c.#d.(a!a.c!d.0+(a!b.c!d.0+a!b.#e.#f.#g.#h.c!d.e!f.g!h.0))", "a!a", "#a.#b.a!b.0", "a!b"},
		{"#c.#d.(a?x.#e.#f.#g.#h.c!d.e!f.g!h.0+(b!a.c!d.0+(b?y.c!d.0+~.0)))", "b?c", "#a.#b.a!b.0", "a?c"},
		// # that are left out do not count, nor those of parts of sums that are
		{"#c.#d.a!b.#e.#f.#g.#h.c!d.e!f.0", "a!b", "#a.#b.#c.#d.a!b.c!d.0", ""},
		{"#c.#d.(a!b.#e.#f.#g.#h.e!f.g!h.0+b!a.c!d.0)", "a!b", "#a.#b.#c.#d.a!b.c!d.0", ""},
		// MaxOwn in all
		{four, "a?a", fourTwice, ""},
		{sideBySide(four, "#z.z!z.0"), "b?a", "", "a?a"},
		{sideBySide(four, "#z.a!z.0"), "a!#c", "*a?c.b?d.#e.#f.#g.#h.e!f.g!h.0", "a?a"},
		// signs
		{sideBySide("*a?x."+q26, "~.0"), "a?b", "(*a?b." + q26 + "&(" + q26 + "&~.0))", ""},
		{sideBySide("*a?x."+q26, "~.~.0"), "~", "(*a?b." + q26 + "&~.0)", "a?b"},
		// the result is a process, though (Q&*a?x.Q) as it stands is none
		{"*a?c." + tests, "a?b", "(*a?c." + tests + "&~.0)", "a?c"},
		{"*a?c." + tests, "b?a", "", "a?d"},
		// letters
		{sideBySide("a?x.x!x.0", "a?x.a?y.x!y.0", letters24), "b?z", "", "a?y"},
		{sideBySide("a?x.x!x.0", "a?x.a?y.x!y.0", letters24), "", "", "a?z"},
	} {
		checkLimit(t, c.p, c.good, c.want, c.bad)
	}
}

func checkLimit(t *testing.T, p, good, want, bad string) {
	t.Helper()
	if simple, ok := impl.IsSimple(p); !simple || !ok {
		t.Fatal("not simple:", p)
	}
	if _, ok := impl.NormalForm(p); !ok {
		t.Error("no normal form:", p)
	}
	if good != "" {
		checkStepsWith(t, p, good, want)
		checkAfter(t, "~."+p, []string{"~", good}, want)
	}
	steps, ok := impl.StepsOf(p)
	labels, okLabels := impl.LabelsOf(p)
	traces, okTraces := impl.TracesOf("~."+p, 2)
	if ok != (bad == "") || okLabels != ok || okTraces != ok {
		t.Error(p, steps, ok, labels, okLabels, traces, okTraces)
	}
	checkTraces(t, p, 0, "")
	checkTraces(t, "~."+p, 1, "|~")
	if bad == "" {
		return
	}
	if steps != nil || labels != nil || traces != nil {
		t.Error("results of calls that fail:", p, steps, labels, traces)
	}
	checkBad(t, p, bad)
}

// checkBad checks the calls that fail for a label, and that others do not.
func checkBad(t *testing.T, p, bad string) {
	t.Helper()
	if list, ok := impl.StepsWith(p, bad); list != nil || ok {
		t.Error(p, bad, list, ok)
	}
	if list, ok := impl.AfterLabels("~."+p, []string{"~", bad}); list != nil || ok {
		t.Error(p, bad, list, ok)
	}
	if _, ok := impl.AfterLabels("~."+p, []string{"~"}); !ok {
		t.Error(p, "is not reached")
	}
	if list, ok := impl.OutputSteps(p); ok == strings.Contains(bad, "!") || !ok && list != nil {
		t.Error(p, bad, "outputs", list, ok)
	}
	object, _ := impl.ObjectOf(bad)
	if strings.Contains(bad, "?") {
		if list, ok := impl.InputSteps(p, object); list != nil || ok {
			t.Error(p, bad, "inputs", list, ok)
		}
	} else if _, ok := impl.InputSteps(p, "a"); !ok {
		t.Error(p, bad, "inputs fail")
	}
}

func TestNoArgumentsOfChapter4(t *testing.T) {
	for _, p := range slices.Concat(noProcesses(), notSimple(), beyondLimits()) {
		for name, f := range map[string]func(string) ([][]string, bool){
			"OutputSteps": impl.OutputSteps, "StepsOf": impl.StepsOf,
			"InputSteps": func(p string) ([][]string, bool) { return impl.InputSteps(p, "a") },
		} {
			if list, ok := f(p); list != nil || ok {
				t.Errorf("%s(%.40q): %v %v", name, p, list, ok)
			}
		}
		for name, f := range map[string]func(string) ([]string, bool){
			"LabelsOf":              impl.LabelsOf,
			"StepsWith ~":           func(p string) ([]string, bool) { return impl.StepsWith(p, "~") },
			"StepsWith a?b":         func(p string) ([]string, bool) { return impl.StepsWith(p, "a?b") },
			"AfterLabels":           func(p string) ([]string, bool) { return impl.AfterLabels(p, nil) },
			"TracesOf 0":            func(p string) ([]string, bool) { return impl.TracesOf(p, 0) },
			"TracesOf 3":            func(p string) ([]string, bool) { return impl.TracesOf(p, 3) },
			"CommunicationsOf":      func(p string) ([]string, bool) { return impl.CommunicationsOf(p, "0") },
			"CommunicationsOf last": func(p string) ([]string, bool) { return impl.CommunicationsOf("0", p) },
			"CommunicationsOf both": func(p string) ([]string, bool) { return impl.CommunicationsOf(p, p) },
			"ParallelSteps":         func(p string) ([]string, bool) { return impl.ParallelSteps(p, "~.0") },
			"ParallelSteps last":    func(p string) ([]string, bool) { return impl.ParallelSteps("~.0", p) },
		} {
			if list, ok := f(p); list != nil || ok {
				t.Errorf("%s(%.40q): %v %v", name, p, list, ok)
			}
		}
	}
}
