package tests

import (
	"regexp"
	"strings"
	"testing"

	"loop.example/g01175/impl"
)

// used is what is told of the places of a free name.
type used struct {
	uses                    string
	sends, receives, handed int
	linear                  bool
}

// usesTold returns what the program tells of a free name.
func usesTold(t *testing.T, p, name string) used {
	t.Helper()
	uses, okUses := impl.UsesOf(p, name)
	sends, receives, handed, okCount := impl.CountUses(p, name)
	linear, okLinear := impl.IsLinear(p, name)
	if !okUses || !okCount || !okLinear {
		t.Error(p, name, "fails:", okUses, okCount, okLinear)
	}
	return used{uses, sends, receives, handed, linear}
}

func TestUses(t *testing.T) {
	for _, c := range []struct {
		p, name string
		want    used
	}{
		// the examples
		{"(a!b.0&a?x.x!c.0)", "a", used{"!?", 1, 1, 0, true}},
		{"(a!b.0&a?x.x!c.0)", "b", used{"", 0, 0, 1, false}},
		{"(a!b.0&a?x.x!c.0)", "c", used{"", 0, 0, 1, false}},
		{"(a!b.0&a?x.0)", "a", used{"!?", 1, 1, 0, true}},
		// one use alone
		{"a!b.0", "a", used{"!", 1, 0, 0, false}},
		{"a?x.0", "a", used{"?", 0, 1, 0, false}},
		{"c!a.0", "a", used{"", 0, 0, 1, false}},
		{"[a=b]0", "a", used{"", 0, 0, 0, false}},
		{"[b=a]0", "a", used{"", 0, 0, 0, false}},
		// in any order and place
		{"a!b.a?x.0", "a", used{"!?", 1, 1, 0, true}},
		{"a?x.a!b.0", "a", used{"!?", 1, 1, 0, true}},
		{"(a!b.0+a?x.0)", "a", used{"!?", 1, 1, 0, true}},
		{"(a?x.0&a!b.0)", "a", used{"!?", 1, 1, 0, true}},
		{"~.[b=c]#d.(c?x.(0+b!c.a!d.0)&(~.a?x.0&0))", "a", used{"!?", 1, 1, 0, true}},
		{"a?x.a!x.0", "a", used{"!?", 1, 1, 0, true}},
		// several times
		{"(a!b.0&(a?x.0&a?y.0))", "a", used{"!?", 1, 2, 0, false}},
		{"(a!b.a!c.0&a?x.0)", "a", used{"!?", 2, 1, 0, false}},
		{"a!b.a!b.0", "a", used{"!", 2, 0, 0, false}},
		{"a?x.a?x.0", "a", used{"?", 0, 2, 0, false}},
		{"(a!b.a?x.0+a?x.a!b.0)", "a", used{"!?", 2, 2, 0, false}},
		{"c!a.(c!a.0&(~.d!a.0+e!a.0))", "a", used{"", 0, 0, 4, false}},
		{strings.Repeat("a!a.", 59) + "0", "a", used{"!", 59, 0, 59, false}},
		// handed over
		{"a!a.0", "a", used{"!", 1, 0, 1, false}},
		{"(a!a.0&a?x.0)", "a", used{"!?", 1, 1, 1, false}},
		{"(a!b.0&(a?x.0&c!a.0))", "a", used{"!?", 1, 1, 1, false}},
		{"(a!b.0&(a?x.0&#c.c!a.0))", "a", used{"!?", 1, 1, 1, false}},
		{"(a!b.0&a?x.x!a.0)", "a", used{"!?", 1, 1, 1, false}},
		{"a!a.(a!b.a?x.0&c!a.a?x.0)", "a", used{"!?", 2, 2, 2, false}},
		// below a sign that binds the same letter
		{"a?a.a?a.0", "a", used{"?", 0, 1, 0, false}},
		{"a?a.(a!a.a?b.0&[a=b]0)", "a", used{"?", 0, 1, 0, false}},
		{"(a!b.0&#a.a!a.0)", "a", used{"!", 1, 0, 0, false}},
		{"(#a.a!a.a?b.0&a!b.0)", "a", used{"!", 1, 0, 0, false}},
		{"(a!b.0&a?a.a!c.0)", "a", used{"!?", 1, 1, 0, true}},
		{"(a!b.0&(a?x.0&b?a.(a!c.a?d.0&c!a.0)))", "a", used{"!?", 1, 1, 0, true}},
		{"(a!b.0&(a?x.0&#a.(~.c!a.0+a?a.0)))", "a", used{"!?", 1, 1, 0, true}},
		{"(a!b.0&a?a.[a=b]0)", "a", used{"!?", 1, 1, 0, true}},
		{"#x.(x!a.0&#a.x!a.0)", "a", used{"", 0, 0, 1, false}},
		// in a part of *
		{"(a!b.0&*a?x.0)", "a", used{"!?", 1, 1, 0, false}},
		{"(*a!b.0&a?x.0)", "a", used{"!?", 1, 1, 0, false}},
		{"*(a!b.0&a?x.0)", "a", used{"!?", 1, 1, 0, false}},
		{"**(a!b.0&a?x.0)", "a", used{"!?", 1, 1, 0, false}},
		{"(a!b.0&*c?x.~.(0+[c=d]a?x.0))", "a", used{"!?", 1, 1, 0, false}},
		{"(a?x.0&#x.*x?y.*y?z.a!z.0)", "a", used{"!?", 1, 1, 0, false}},
		{"(a!b.0&(a?x.0&*c!d.0))", "a", used{"!?", 1, 1, 0, true}},
		{"(a!b.0&(a?x.0&*#a.a!d.0))", "a", used{"!?", 1, 1, 0, true}},
		{"(a!b.0&(a?x.0&#a.*a!d.0))", "a", used{"!?", 1, 1, 0, true}},
		{"(a!b.0&a?a.*a!d.0)", "a", used{"!?", 1, 1, 0, true}},
		{"(a!b.0&(a?x.0&*c?a.a!d.0))", "a", used{"!?", 1, 1, 0, true}},
		{"a!b.a?x.*0", "a", used{"!?", 1, 1, 0, true}},
		{"(a!b.0&(a?x.0&*c!a.0))", "a", used{"!?", 1, 1, 1, false}},
		{"*c!a.0", "a", used{"", 0, 0, 1, false}},
		// in a match
		{"[a=b](a!b.0&a?x.0)", "a", used{"!?", 1, 1, 0, false}},
		{"[b=a](a!b.0&a?x.0)", "a", used{"!?", 1, 1, 0, false}},
		{"(a!b.0&(a?x.0&[a=a]0))", "a", used{"!?", 1, 1, 0, false}},
		{"(a!b.0&a?x.[x=a]0)", "a", used{"!?", 1, 1, 0, false}},
		{"[b=c](a!b.0&a?x.0)", "a", used{"!?", 1, 1, 0, true}},
		{"(a!b.0&(a?x.0&#a.[a=b]0))", "a", used{"!?", 1, 1, 0, true}},
		{"(a!b.0&(a?x.0&*[a=b]0))", "a", used{"!?", 1, 1, 0, false}},
		// no simple ones, and ones that cannot be sorted
		{"((a!b.0&0)+*a?x.0)", "a", used{"!?", 1, 1, 0, false}},
		{"((a!b.0&0)+[c=d]a?x.0)", "a", used{"!?", 1, 1, 0, true}},
		{"(b!b.0&(a!b.0&a?x.x!x.0))", "a", used{"!?", 1, 1, 0, true}},
		{"(b!b.0&(a!b.0&a?x.x!x.0))", "b", used{"!", 1, 0, 2, false}},
	} {
		if told := usesTold(t, c.p, c.name); told != c.want {
			t.Errorf("%s: %s has %v, not %v", c.p, c.name, told, c.want)
		}
		// it is the same for any other letter
		for _, other := range "yz" {
			if told := usesTold(t, exchangedNames(c.p, c.name, string(other)), string(other)); told != c.want {
				t.Errorf("%s with %c: %v, not %v", c.p, other, told, c.want)
			}
		}
	}
}

func TestSendsLast(t *testing.T) {
	for _, c := range []struct {
		p    string
		want bool
	}{
		{"0", true},
		{"a!b.0", true},
		{"a!a.0", true},
		{"(a!b.0&a?x.x!c.0)", true},
		{"a?x.~.*[a=b]#c.c!c.0", true},
		{"*a!b.0", true},
		{"((a!b.0&c!d.0)&(0+0))", true},
		{"(a?x.0+~.0)", true},
		// what is no 0
		{"a!b.~.0", false},
		{"a!b.c!d.0", false},
		{"a!b.c?x.0", false},
		{"a!b.(0&0)", false},
		{"a!b.(0+0)", false},
		{"a!b.*0", false},
		{"a!b.#x.0", false},
		{"a!b.[a=a]0", false},
		{"a?x.~.*[a=b]#c.c!c.~.0", false},
		{"(0&(0&(~.a!b.a!b.0+0)))", false},
		{"(a!b.0&(a!b.~.0&a!b.0))", false},
		// parts of sums
		{"(a!b.0+0)", false},
		{"(0+a!b.0)", false},
		{"(a!b.0+c!d.0)", false},
		{"((0+a!b.0)+0)", false},
		{"(0+(a!b.0+~.0))", false},
		{"~.(a?x.(0+c!d.0)&0)", false},
		{"*#x.[a=b](c?y.(x!y.0+0)+0)", false},
		// parts of these
		{"(~.a!b.0+0)", true},
		{"(0+a?x.a!x.0)", true},
		{"(a?x.b!x.0+(~.b!a.0+a?y.~.a!y.0))", true},
		{"(~.(0&a!b.0)+0)", true},
		{"(~.a!b.~.0+0)", false},
		{"(~.(0+a!b.0)+0)", false},
		// of no simple ones, too
		{"((a!b.0&0)+0)", true},
		{"([a=b]a!b.0+0)", true},
		{"(0+#x.a!x.0)", true},
		{"(0+*a!b.0)", true},
		{"((a!b.~.0&0)+0)", false},
	} {
		if is, ok := impl.SendsLast(c.p); is != c.want || !ok {
			t.Error(c.p, is, ok)
		}
	}
}

// usesByText puts a letter that is nowhere else into the places of a free name, and finds these in the text.
func usesByText(p, name string) used {
	bound, _ := impl.BoundNames(p)
	free, _ := impl.FreeNames(p)
	letter, ok := impl.FreshName(bound + free)
	if !ok {
		panic("no letter is left: " + p)
	}
	text := renamed(p, name, letter)
	count := func(s string) int { return strings.Count(text, strings.ReplaceAll(s, "a", letter)) }
	u := used{sends: count("a!"), receives: count("a?"), handed: count("!a.")}
	if u.sends > 0 {
		u.uses = "!"
	}
	if u.receives > 0 {
		u.uses += "?"
	}
	u.linear = u.sends == 1 && u.receives == 1 && u.handed == 0 && count("[a=") == 0 && count("=a]") == 0
	for _, path := range pathsOf(text, "") {
		part, _ := impl.SubtermAt(text, path)
		if part[0] == '*' && strings.Contains(part, letter) {
			u.linear = false
		}
	}
	return u
}

// TestUsesByText compares with what is found in the texts.
func TestUsesByText(t *testing.T) {
	goesOn := regexp.MustCompile(`![a-z]\.[^0]`)
	inSum := regexp.MustCompile(`\([a-z]![a-z]\.0\+|\+[a-z]![a-z]\.0\)`)
	linear, last := 0, 0
	for _, p := range sortedProcesses() {
		is, ok := impl.SendsLast(p)
		if want := !goesOn.MatchString(p) && !inSum.MatchString(p); is != want || !ok {
			t.Fatal(p, is, ok)
		}
		if is && strings.Contains(p, "!") {
			last++
		}
		bound, _ := impl.BoundNames(p)
		free, _ := impl.FreeNames(p)
		if _, ok := impl.FreshName(bound + free); !ok {
			continue
		}
		for _, name := range free {
			told := usesTold(t, p, string(name))
			if want := usesByText(p, string(name)); told != want {
				t.Fatal(p, string(name), told, want)
			}
			if told.linear {
				linear++
			}
		}
	}
	if linear < 200 || last < 200 {
		t.Error("few are linear, or send last:", linear, last)
	}
}
