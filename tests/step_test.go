package tests

import (
	"slices"
	"strings"
	"testing"

	"loop.example/g01175/impl"
)

// sender and echo are the processes of the example.
const (
	sender = "#x.a!x.x?y.0"
	echo   = "a?x.x!b.0"
)

// letters24 is free of y and z.
const letters24 = "a!b.c!d.e!f.g!h.i!j.k!l.m!n.o!p.q!r.s!t.u!v.w!x.0"

// noLabels has texts that are no label.
func noLabels() []string {
	return []string{
		"", " ", "a", "!", "?", "#", "0", "~~", "~.", " ~", "~ ", "~a", "a~", "a~b", "a!~", "a!", "!b", "a?", "?b", "!#b", "a!#", "a#b", "#b", "#a!b",
		"a!b ", " a!b", "a! b", "a!b.", "a!b.0", "a!bc", "ab!c", "aa?b", "a?bc", "a!!b", "a!?b", "a?!b", "a??b", "a?#b", "a!##b", "a!#bc", "a#!b", "ab!#c", "a!b!c",
		"A!b", "a!B", "A!#b", "a!#B", "1?b", "a?1", "a=b", "a&b", "a+b", "[a=b]", "*a", "a\x00b", "a!\x00", "a!\xff", "\xff!b", "é!b", "a!é", "a！b", "a!b\n",
		"a!#" + strings.Repeat("b", 100000), strings.Repeat("a!b", 100000), strings.Repeat("~", 1000000),
	}
}

func TestLabels(t *testing.T) {
	if !impl.IsLabel("~") {
		t.Error("~ is a label")
	}
	for _, a := range alphabet {
		for _, b := range alphabet {
			for _, between := range []string{"!", "!#", "?"} {
				label := string(a) + between + string(b)
				subject, okSubject := impl.SubjectOf(label)
				object, okObject := impl.ObjectOf(label)
				if !impl.IsLabel(label) || subject != string(a) || object != string(b) || !okSubject || !okObject {
					t.Fatal(label, subject, object, okSubject, okObject)
				}
			}
		}
	}
	for _, s := range append(noLabels(), "~") {
		if s != "~" && impl.IsLabel(s) {
			t.Errorf("%.40q is no label", s)
		}
		if name, ok := impl.SubjectOf(s); name != "" || ok {
			t.Errorf("%.40q has the subject %q %v", s, name, ok)
		}
		if name, ok := impl.ObjectOf(s); name != "" || ok {
			t.Errorf("%.40q has the object %q %v", s, name, ok)
		}
	}
}

// TestShortLabels tries all texts of at most four of some bytes.
func TestShortLabels(t *testing.T) {
	list := []string{""}
	for range 4 {
		for _, s := range list {
			for _, c := range "az!?#~. 0A" {
				list = append(list, s+string(c))
			}
		}
		slices.Sort(list)
		list = slices.Compact(list)
	}
	var labels []string
	for _, s := range list {
		if impl.IsLabel(s) {
			labels = append(labels, s)
		}
	}
	if got := strings.Join(labels, " "); got != "a!#a a!#z a!a a!z a?a a?z z!#a z!#z z!a z!z z?a z?z ~" {
		t.Error(got)
	}
}

// joinedSteps writes steps as in the tables.
func joinedSteps(list [][]string) string {
	var out []string
	for _, one := range list {
		out = append(out, strings.Join(one, ">"))
	}
	return strings.Join(out, " ")
}

// checkStepList calls twice, and changes what it is given.
func checkStepList(t *testing.T, f func(string) ([][]string, bool), p, want string) {
	t.Helper()
	for range 2 {
		list, ok := f(p)
		for _, one := range list {
			_ = append(one, "more") // no other one may be behind it
		}
		if joinedSteps(list) != want || !ok {
			t.Errorf("%s\n has %s %v\nnot %s", p, joinedSteps(list), ok, want)
		}
		for _, one := range list {
			one[0], one[1] = "changed", "changed"
		}
	}
}

// checkSteps checks all that is told of one step.
func checkSteps(t *testing.T, p, want string) {
	t.Helper()
	checkStepList(t, impl.StepsOf, p, want)
	normal, _ := impl.NormalForm(p)
	names, _ := impl.FreeNames(normal)
	fresh, ok := impl.FreshName(names)
	if ok {
		names += fresh
	}
	results := map[string][]string{}
	var labels, outputs []string
	inputs := map[string][]string{}
	for _, one := range strings.Fields(want) {
		label, result, _ := strings.Cut(one, ">")
		if len(results[label]) == 0 {
			labels = append(labels, label)
		}
		results[label] = append(results[label], result)
		if strings.Contains(label, "!") {
			outputs = append(outputs, one)
		} else if object, ok := impl.ObjectOf(label); ok {
			inputs[object] = append(inputs[object], one)
		}
	}
	checkStepList(t, impl.OutputSteps, p, strings.Join(outputs, " "))
	for _, name := range names {
		f := func(p string) ([][]string, bool) { return impl.InputSteps(p, string(name)) }
		checkStepList(t, f, p, strings.Join(inputs[string(name)], " "))
	}
	checkList(t, impl.LabelsOf, p, strings.Join(labels, " "))
	for _, label := range append([]string{"~"}, labels...) {
		checkStepsWith(t, p, label, strings.Join(results[label], " "))
	}
	checkTraces(t, p, 1, strings.Join(append([]string{""}, labels...), "|"))
}

func checkStepsWith(t *testing.T, p, label, want string) {
	t.Helper()
	f := func(p string) ([]string, bool) { return impl.StepsWith(p, label) }
	checkList(t, f, p, want)
	checkAfter(t, p, []string{label}, want)
}

func checkAfter(t *testing.T, p string, labels []string, want string) {
	t.Helper()
	given := append(slices.Clone(labels), "behind", "them")
	f := func(p string) ([]string, bool) { return impl.AfterLabels(p, given[:len(labels)]) }
	checkList(t, f, p, want)
	if !slices.Equal(given, append(slices.Clone(labels), "behind", "them")) {
		t.Error("labels are changed:", given)
	}
}

// checkTraces has the traces with | between them.
func checkTraces(t *testing.T, p string, n int, want string) {
	t.Helper()
	for range 2 {
		list, ok := impl.TracesOf(p, n)
		if strings.Join(list, "|") != want || len(list) == 0 || !ok {
			t.Errorf("%s has for %d %q %v", p, n, list, ok)
		}
		for i := range list {
			list[i] = "changed"
		}
	}
}

func TestSteps(t *testing.T) {
	for _, c := range []struct{ p, want string }{
		// both processes of the example
		{sender, "a!#b>b?a.0"},
		{echo, "a?a>a!b.0 a?b>b!b.0 a?c>c!b.0"},
		// one sign
		{"a!b.0", "a!b>0"},
		{"a!a.0", "a!a>0"},
		{"a?x.0", "a?a>0 a?b>0"},
		{"~.0", "~>0"},
		{"b?x.x!x.0", "b?a>a!a.0 b?b>b!b.0"},
		{"a?x.a?y.x!y.0", "a?a>a?b.a!b.0 a?b>a?c.b!c.0"},
		// several threads, in order
		{"(~.0&(b!a.0&a?x.0))", "a?a>(b!a.0&~.0) a?b>(b!a.0&~.0) a?c>(b!a.0&~.0) b!a>(a?b.0&~.0) ~>(a?c.0&b!a.0)"},
		{"(b!a.0&(a!b.0&a!a.0))", "a!a>(a!b.0&b!a.0) a!b>(a!a.0&b!a.0) b!a>(a!a.0&a!b.0)"},
		{twoWays, "a!b>(a?b.b!c.0+~.0) a?a>(a!b.0&a!c.0) a?b>(a!b.0&b!c.0) a?c>(a!b.0&c!c.0) a?d>(a!b.0&d!c.0) ~>a!b.0 ~>b!c.0"},
		// names bound at the front are neither sent on nor received on
		{"#a.(a!b.0&b!c.0)", "b!c>#a.a!b.0"},
		{"#a.(a?x.0&b?y.0)", "b?a>#a.a?b.0 b?b>#a.a?b.0"},
		{"#x.(x!b.0+(a!b.0+(x?y.0+a?y.0)))", "a!b>0 a?a>0 a?b>0 a?c>0"},
		{"#x.(x!a.~.0&(x?y.y!y.0&~.x!x.0))", "~>#b.(a!a.0&(~.0&~.b!b.0)) ~>#b.(b!a.~.0&(b!b.0&b?c.c!c.0))"},
		// names of their own that are sent
		{"#x.a!x.0", "a!#b>0"},
		{"#x.(a!x.0&x!b.0)", "a!#c>c!b.0"},
		{"#x.a!x.x!x.0", "a!#b>b!b.0"},
		{"#x.#y.(a!x.0&b!y.x!y.0)", "a!#c>#a.b!a.c!a.0 b!#c>#b.(a!b.0&b!c.0)"},
		{"#x.#y.(a!x.x!b.0&a!y.0)", "a!#c>#c.a!c.c!b.0 a!#c>#d.(a!d.0&c!b.0)"},
		{"#x.(a!x.0+b!a.x!x.0)", "a!#c>0 b!a>#a.a!a.0"},
		{"#x.(a!x.0+a!x.b!x.0)", "a!#c>0 a!#c>b!c.0"},
		{"(a!b.0&#b.a!b.0)", "a!#c>a!b.0 a!b>#b.a!b.0"},
		{"#x.a!x.#y.x!y.y!x.0", "a!#b>#a.b!a.a!b.0"},
		{"#x.a!x.[x=b]c!c.0", "a!#d>[b=d]c!c.0"},
		{"#x.(a!x.0&*x?y.x!y.0)", "a!#b>*b?a.b!a.0"},
		// and others that are not
		{"#x.a!b.x!x.0", "a!b>#a.a!a.0"},
		{"#x.a!b.a!x.0", "a!b>#b.a!b.0"},
		{"#x.a!b.0", "a!b>0"},
		{"#x.(a!b.0&[x=c]a!x.0)", "a!b>#b.[b=c]a!b.0"},
		// parts of sums, the others being left out
		{"(a!b.0+~.c!c.0)", "a!b>0 ~>c!c.0"},
		{"((a!b.0+c?x.x!x.0)&d!d.0)", "a!b>d!d.0 c?a>(a!a.0&d!d.0) c?b>(b!b.0&d!d.0) c?c>(c!c.0&d!d.0) c?d>(d!d.0&d!d.0) c?e>(d!d.0&e!e.0) d!d>(a!b.0+c?d.d!d.0)"},
		{"(a!a.0+(a!a.b!b.0+(0+a!a.0)))", "a!a>0 a!a>b!b.0"},
		{"(a?x.x!x.0+a?x.~.0)", "a?a>a!a.0 a?a>~.0 a?b>b!b.0 a?b>~.0"},
		// a repeated one stays
		{"*a?x.0", "a?a>*a?b.0 a?b>*a?b.0"},
		{"*a?x.x!x.0", "a?a>(*a?b.b!b.0&a!a.0) a?b>(*a?c.c!c.0&b!b.0)"},
		{"*a?x.(x!x.0+~.0)", "a?a>((a!a.0+~.0)&*a?b.(b!b.0+~.0)) a?b>((b!b.0+~.0)&*a?c.(c!c.0+~.0))"},
		{"#y.*a?x.x!y.0", "a?a>#b.(*a?c.c!b.0&a!b.0) a?b>#c.(*a?d.d!c.0&b!c.0)"},
		{"*a?x.#y.x!y.0", "a?a>#b.(*a?c.#d.c!d.0&a!b.0) a?b>#c.(*a?d.#e.d!e.0&b!c.0)"},
		// names that would be captured
		{"a?x.#a.x!a.0", "a?a>#b.a!b.0 a?b>#a.b!a.0"},
		{"a?x.c?y.x!y.0", "a?a>c?b.a!b.0 a?b>c?a.b!a.0 a?c>c?a.c!a.0"},
		{"#b.a?c.b!c.0", "a?a>#b.b!a.0 a?b>#a.a!b.0"},
		{"#b.a?x.*x?y.(x!b.0+y!b.0)", "a?a>#b.*a?c.(a!b.0+c!b.0) a?b>#a.*b?c.(b!a.0+c!a.0)"},
		{"a?x.a?x.x!x.0", "a?a>a?b.b!b.0 a?b>a?b.b!b.0"},
		// matches
		{"a?x.[x=b]c!c.0", "a?a>[a=b]c!c.0 a?b>c!c.0 a?c>[b=c]c!c.0 a?d>[b=d]c!c.0"},
		{"[a=a]c!d.0", "c!d>0"},
		// what the laws leave out has no names
		{"([b=c]0&#x.a!x.0)", "a!#b>0"},
		{"([b=b]a?x.0&[c=d]0)", "a?a>0 a?b>0"},
		// equal steps, and equal results
		{"(a!b.0&a!b.0)", "a!b>a!b.0"},
		{"(a!b.0+a!b.0)", "a!b>0"},
		{"(~.a!b.0+~.(0&a!b.0))", "~>a!b.0"},
		{"(a?x.0&a?y.0)", "a?a>a?b.0 a?b>a?b.0"},
		{"(*a?x.0&a?x.0)", "a?a>(*a?b.0&a?b.0) a?a>*a?b.0 a?b>(*a?b.0&a?b.0) a?b>*a?b.0"},
		{"(#x.a!x.0&#y.a!y.0)", "a!#b>#b.a!b.0"},
		{"(a!b.0+(b!a.0+~.0))", "a!b>0 b!a>0 ~>0"},
		// all letters are free: there is no new name, but none is received
		{letters26, "a!b>" + strings.TrimPrefix(letters26, "a!b.")},
		{"~." + letters26, "~>" + letters26},
		{"(z!a.0&" + letters26 + ")", "a!b>(" + strings.TrimPrefix(letters26, "a!b.") + "&z!a.0) z!a>" + letters26},
	} {
		checkSteps(t, c.p, c.want)
	}
}

func TestNoSteps(t *testing.T) {
	for _, p := range []string{
		"0", "(0&#x.0)", "[a=b]~.0", "[a=b]a!b.0", "[a=b]*c?x.0", "#a.a!b.0", "#a.a?x.0", "#a.*a?x.b!x.0", "#x.x!x.0", "#a.#b.(a!b.0&b?x.0)", "(#a.a!b.0&#b.b?x.0)",
		"#x.[x=a]a!x.0", "#x.(x!a.0+x?y.a!y.0)",
	} {
		checkSteps(t, p, "")
		for n := range 4 {
			checkTraces(t, p, n, "")
		}
	}
}

func TestStepsWith(t *testing.T) {
	for _, c := range []struct{ p, label, want string }{
		// other names than the new one
		{echo, "a?z", "z!b.0"},
		{echo, "a?x", "x!b.0"},
		{sender, "a!#z", "z?a.0"},
		{sender, "a!#x", "x?a.0"},
		{"#x.a!x.x!b.0", "a!#d", "d!b.0"},
		{"(#x.a!x.0&#x.a!x.x!x.0)", "a!#q", "#b.(a!b.0&q!q.0) #b.a!b.b!b.0"},
		{"*a?x.x!b.0", "a?y", "(*a?c.c!b.0&y!b.0)"},
		// which the normal form binds
		{"#b.a?c.b!c.0", "a?c", "#a.a!c.0"},
		{"#x.a?y.x!y.0", "a?b", "#a.a!b.0"},
		{"a?x.c?y.x!y.0", "a?d", "c?a.d!a.0"},
		{"a?x.#y.c!y.x!y.0", "a?d", "#a.c!a.d!a.0"},
		{"a?b.(b?c.c!b.0&b?d.d!b.0)", "a?c", "(c?a.a!c.0&c?a.a!c.0)"},
		{"#b.#c.(a!b.0&d!c.b!c.0)", "a!#c", "#a.d!a.c!a.0"},
		{"#b.#c.(a!b.0&d!c.b!c.0)", "d!#b", "#c.(a!c.0&c!b.0)"},
		{"#b.#c.(a!b.0&d!c.b!c.0)", "d!#e", "#b.(a!b.0&b!e.0)"},
		{"#b.a!b.c?d.d!b.0", "a!#d", "c?a.a!d.0"},
		// no steps
		{"0", "~", ""},
		{"0", "a!b", ""},
		{"0", "a?b", ""},
		{"0", "a!#b", ""},
		{"0", "a!#a", ""},
		{"a!b.0", "~", ""},
		{"a!b.0", "a!c", ""},
		{"a!b.0", "b!b", ""},
		{"a!b.0", "b!a", ""},
		{"a!b.0", "a?b", ""},
		{"a!b.0", "a!#c", ""},
		{"a?x.0", "a!x", ""},
		{"a?x.0", "b?a", ""},
		{"a?x.0", "a!#x", ""},
		{"#b.a!b.0", "a!b", ""},
		{"#b.a!b.0", "c!#b", ""},
		{"#b.b!a.0", "b!a", ""},
		{"#b.b!b.0", "b!#b", ""},
		{"#b.b!b.0", "b!#c", ""},
		{"#b.b?x.0", "b?b", ""},
		{"a!b.c!d.0", "c!d", ""},
		{"[a=b]c!d.0", "c!d", ""},
		// names that are not free in the normal form
		{"([b=c]0&#x.a!x.0)", "a!#b", "0"},
		{"([b=c]0&#x.a!x.0)", "a!#c", "0"},
		{"([a=b]0&c!c.0)", "a!#a", ""},
	} {
		checkStepsWith(t, c.p, c.label, c.want)
	}
	for _, c := range []struct{ p, label string }{
		{sender, "a!#a"}, {"#x.a!x.x!b.0", "a!#a"}, {"#x.a!x.x!b.0", "a!#b"}, {"(#x.a!x.0&c!d.0)", "a!#d"}, {"#x.(a!x.0&c?y.[y=d]0)", "a!#c"},
		// even if nothing is sent so
		{"a!b.0", "a!#b"}, {"a!b.0", "a!#a"}, {"a!b.0", "c!#a"}, {"a?x.0", "a!#a"}, {"[a=b]~.0", "c!#b"}, {"~.a!b.0", "z!#b"}, {letters26, "a!#k"},
	} {
		if list, ok := impl.StepsWith(c.p, c.label); list != nil || ok {
			t.Error(c.p, c.label, list, ok)
		}
		if list, ok := impl.AfterLabels(c.p, []string{c.label}); list != nil || ok {
			t.Error(c.p, c.label, list, ok)
		}
	}
}

func TestInputsOfAnyName(t *testing.T) {
	for _, c := range []struct{ p, name, want string }{
		{echo, "z", "a?z>z!b.0"},
		{echo, "a", "a?a>a!b.0"},
		{"(a!b.0&#a.a?x.0)", "z", ""},
		{"(b?x.x!b.0+(a?x.0+b?x.0))", "d", "a?d>0 b?d>0 b?d>d!b.0"},
		{"(*b?x.0&#y.(y?x.0&a?x.y!x.0))", "y", "a?y>#a.(*b?c.0&(a!y.0&a?c.0)) b?y>#c.(*b?d.0&(a?d.c!d.0&c?d.0))"},
		{"a!b.a?x.0", "b", ""},
		{"#b.a?c.c!b.0", "b", "a?b>#a.b!a.0"},
	} {
		f := func(p string) ([][]string, bool) { return impl.InputSteps(p, c.name) }
		checkStepList(t, f, c.p, c.want)
	}
	for _, name := range []string{"", " ", "A", "ab", "1", "#", "~", "a ", "\x00", "é", strings.Repeat("a", 1000)} {
		for _, p := range []string{"0", echo, "a!b.0"} {
			if list, ok := impl.InputSteps(p, name); list != nil || ok {
				t.Errorf("%q: %v %v", name, list, ok)
			}
		}
	}
}

// TestLettersAreScarce receives and sends names where all other letters are bound or free.
func TestLettersAreScarce(t *testing.T) {
	rest := strings.TrimPrefix(letters24, "a!b.")
	for _, c := range []struct{ p, label, want string }{
		{"(a?y.0&" + letters25 + ")", "a?z", letters25},
		{"(a?y.y!y.0&" + letters25 + ")", "a?z", "(" + letters25 + "&z!z.0)"},
		{"(#x.a!x.x!x.0&" + letters25 + ")", "a!#z", "(" + letters25 + "&z!z.0)"},
		{"a?y.a?z.y!z." + letters24, "a?y", "a?z.y!z." + letters24},
		{"a?y.a?z.y!z." + letters24, "a?z", "a?y.z!y." + letters24},
		{"a?y.a?z.y!z." + letters24, "a?a", "a?y.a!y." + letters24},
		{"#y.#z.a!y.z!y." + letters24, "a!#y", "#z.z!y." + letters24},
		{"#y.#z.a!y.z!y." + letters24, "a!#z", "#y.y!z." + letters24},
		{"#y.a?z.y!z." + letters24, "a?z", "#y.y!z." + letters24},
		{"#y.a?z.y!z." + letters24, "a?y", "#z.z!y." + letters24},
		{"#y.a?z.y!z.a!b." + rest, "a?x", "#y.y!x." + letters24},
	} {
		checkStepsWith(t, c.p, c.label, c.want)
		if c.p[0] == '(' {
			if list, ok := impl.StepsOf(c.p); len(list) < 2 || !ok {
				t.Error(c.p, list, ok)
			}
		}
	}
}
