package tests

import (
	"strconv"
	"strings"
	"testing"

	"loop.example/g01175/impl"
)

// sorts is what is told of the sorts of a process: the classes of its free names; for each of these, in order, its level, - if there is none, and the names that it carries, - for none; and the names from which one comes to a sort that carries itself.
type sorts struct {
	sorted                           bool
	classes, levels, carried, cycles string
}

// orDash returns - for an empty text.
func orDash(text string) string {
	if text == "" {
		return "-"
	}
	return text
}

// sortsTold returns what the program tells of a process, of which all but levels has to succeed.
func sortsTold(t *testing.T, p string) sorts {
	t.Helper()
	sorted, okSorted := impl.CanBeSorted(p)
	classes, okClasses := impl.SortClasses(p)
	cycles, okCycles := impl.CycleNames(p)
	free, okFree := impl.FreeNames(p)
	if !okSorted || !okClasses || !okCycles || !okFree {
		t.Error(p, "fails:", okSorted, okClasses, okCycles)
	}
	var levels, carried []string
	for _, name := range free {
		text, ok := impl.CarriedBy(p, string(name))
		if !ok {
			t.Error(p, "fails to carry by", string(name))
		}
		carried = append(carried, orDash(text))
		levels = append(levels, levelTold(t, p, string(name)))
		checkSameSorts(t, p, string(name), free, classes)
	}
	return sorts{sorted, strings.Join(classes, " "), strings.Join(levels, " "), strings.Join(carried, " "), cycles}
}

// levelTold returns the level, - if there is none, and checks that SortText tells the same.
func levelTold(t *testing.T, p, name string) string {
	t.Helper()
	level, ok := impl.LevelOf(p, name)
	text, okText := impl.SortText(p, name)
	want := ""
	if ok {
		want = strings.Repeat("(", level) + "o" + strings.Repeat(")", level)
	}
	if text != want || okText != ok || !ok && level != 0 {
		t.Error(p, name, "has", level, ok, text, okText)
	}
	if !ok {
		return "-"
	}
	return strconv.Itoa(level)
}

// checkSameSorts compares HaveSameSort of a name and all free ones with their classes.
func checkSameSorts(t *testing.T, p, name, free string, classes []string) {
	t.Helper()
	for _, class := range classes {
		for _, other := range class {
			same, ok := impl.HaveSameSort(p, name, string(other))
			if same != strings.Contains(class, name) || !ok {
				t.Error(p, name, string(other), same, ok, classes)
			}
		}
	}
	if len(strings.Join(classes, "")) != len(free) {
		t.Error(p, "has not each name in one class:", classes)
	}
}

// checkSorts checks what is told of a process that can be sorted.
func checkSorts(t *testing.T, p, classes, levels, carried string) {
	t.Helper()
	want := sorts{true, classes, levels, carried, ""}
	if told := sortsTold(t, p); told != want {
		t.Errorf("%s: %v, not %v", p, told, want)
	}
}

func TestSorts(t *testing.T) {
	for _, c := range []struct{ p, classes, levels, carried string }{
		{"(a!b.0&a?x.x!c.0)", "a b c", "2 1 0", "b c -"}, // the example
		{"0", "", "", ""},
		{"#x.#y.x!y.0", "", "", ""},
		{"a!b.0", "a b", "1 0", "b -"},
		{"b!a.0", "a b", "0 1", "- a"},
		{"a?x.0", "a", "1", "-"}, // it carries what no free name has
		{"a?x.x?y.0", "a", "2", "-"},
		{"a!b.b!c.c!d.0", "a b c d", "3 2 1 0", "b c d -"},
		// names that carry nothing
		{"[a=a]0", "a", "0", "-"},
		{"[a=b]0", "ab", "0 0", "- -"},
		{"[a=c]0", "ac", "0 0", "- -"},
		{"c!b.0", "b c", "0 1", "- b"},
		// a sort carries one alone
		{"(a!b.0&a!c.0)", "a bc", "1 0 0", "bc - -"},
		{"a!b.a!d.a!c.0", "a bcd", "1 0 0 0", "bcd - - -"},
		{"(a!b.0&a?x.0)", "a b", "1 0", "b -"},
		{"(a?x.x!b.0&a?y.y!c.0)", "a bc", "2 0 0", "- - -"},
		{"(a?x.c!x.0&a!b.0)", "a b c", "1 0 1", "b - b"},
		// but two may carry the same one
		{"(a!b.0&c!b.0)", "a b c", "1 0 1", "b - b"},
		{"a?x.b!x.0", "a b", "1 1", "- -"},
		{"a?x.b!x.b!c.0", "a b c", "1 1 0", "c c -"},
		// what is the same by what others carry, in any order
		{"(a!b.0&(a!c.0&(b!d.0&c!e.0)))", "a bc de", "2 1 1 0 0", "bc de de - -"},
		{"(b!d.0&(c!e.0&(a!b.0&a!c.0)))", "a bc de", "2 1 1 0 0", "bc de de - -"},
		{"b!d.a!c.c!e.a!b.d!f.e!g.0", "a bc de fg", "3 2 2 1 1 0 0", "bc de de fg fg - -"},
		{"b!d.d!f.c!e.e!g.a!b.a!c.0", "a bc de fg", "3 2 2 1 1 0 0", "bc de de fg fg - -"},
		{"(a!b.0&a?x.(x!c.0&x!d.0))", "a b cd", "2 1 0 0", "b cd - -"},
		{"(a?x.x!c.0&(b!d.0&a!b.0))", "a b cd", "2 1 0 0", "b cd - -"},
		{"a!b.a!c.c!d.0", "a bc d", "2 1 1 0", "bc d d -"},
		{"a!b.a!c.b!d.0", "a bc d", "2 1 1 0", "bc d d -"},
		{"b!d.a!c.a!b.0", "a bc d", "2 1 1 0", "bc d d -"},
		{"c!d.a!c.a!b.0", "a bc d", "2 1 1 0", "bc d d -"},
		// and by matches
		{"([a=b]0&(a!c.0&b!d.0))", "ab cd", "1 1 0 0", "cd cd - -"},
		{"(a!c.0&(b!d.0&[b=a]0))", "ab cd", "1 1 0 0", "cd cd - -"},
		{"[a=b](a!c.c!e.0&b!d.d!f.0)", "ab cd ef", "2 2 1 1 0 0", "cd cd ef ef - -"},
		{"a!c.b!d.c!e.d!f.[a=b]0", "ab cd ef", "2 2 1 1 0 0", "cd cd ef ef - -"},
		{"[a=b][b=c][d=e]0", "abc de", "0 0 0 0 0", "- - - - -"},
		{"[a=b][c=d][b=c]a!e.0", "abcd e", "1 1 1 1 0", "e e e e -"},
		{"[a=b][c=d][b=c]d!e.0", "abcd e", "1 1 1 1 0", "e e e e -"},
		{"[a=b]b!c.0", "ab c", "1 1 0", "c c -"},
		{"b!c.[a=b]0", "ab c", "1 1 0", "c c -"},
		{"b!c.[b=a]0", "ab c", "1 1 0", "c c -"},
		{"a?x.b?y.[x=y](x!c.0&y!d.0)", "a b cd", "2 2 0 0", "- - - -"},
		{"a?x.[x=b]0", "a b", "1 0", "b -"},
		{"a?x.[b=x]b!c.0", "a b c", "2 1 0", "b c -"},
		// in parts of all signs
		{"~.*#x.[c=c](a!b.0+0)", "a b c", "1 0 0", "b - -"},
		{"((0+c?x.a!b.0)&~.0)", "a b c", "1 0 1", "b - -"},
		{"(~.0&(c?x.x!b.0+0))", "b c", "0 2", "- -"},
		{"c!a.(0+[b=b]*a!b.0)", "a b c", "1 0 2", "b - a"},
		// no simple ones
		{"*a!b.0", "a b", "1 0", "b -"},
		{"**~.(a?x.0&0)", "a", "1", "-"},
		{"([a=b]0+(#c.a!c.0&b!d.0))", "ab d", "1 1 0", "d d -"},
		{"(*a!b.0+[c=d]0)", "a b cd", "1 0 0 0", "b - - -"},
		{"*(a!b.0&*a!c.0)", "a bc", "1 0 0", "bc - -"},
	} {
		checkSorts(t, c.p, c.classes, c.levels, c.carried)
	}
}

// TestNamesWithOneLetter has letters that several signs bind, and some that are bound and free.
func TestNamesWithOneLetter(t *testing.T) {
	for _, c := range []struct{ p, classes, levels, carried string }{
		// by several signs
		{"(a?x.x!b.0&c?x.x!d.0)", "a b c d", "2 0 2 0", "- - - -"},
		{"(a?x.x!b.0+a?x.x!c.0)", "a bc", "2 0 0", "- - -"},
		{"a?x.(x!b.0&c?x.x!d.0)", "a b c d", "2 0 2 0", "- - - -"},
		{"a?x.(c?x.x!d.0&x!b.0)", "a b c d", "2 0 2 0", "- - - -"},
		{"a?x.x?x.x!b.0", "a b", "3 0", "- -"},
		{"#x.x!a.#x.x!b.0", "a b", "0 0", "- -"},
		{"#x.(x!a.0&#x.x!b.0)", "a b", "0 0", "- -"},
		{"#x.(#x.x!a.0&x!b.0)", "a b", "0 0", "- -"},
		{"(#x.x!a.0&#x.x!b.0)", "a b", "0 0", "- -"},
		{"#x.(x!a.0&x!b.0)", "ab", "0 0", "- -"},
		{"(#x.[x=a]0&#x.[x=b]0)", "a b", "0 0", "- -"},
		{"#x.([x=a]0&[x=b]0)", "ab", "0 0", "- -"},
		{"*#x.(a!x.0&#x.x!b.0)", "a b", "1 0", "- -"},
		// bound and free
		{"(d?b.b!c.0&a!b.0)", "a b c d", "1 0 0 2", "b - - -"},
		{"(a!b.0&d?b.b!c.0)", "a b c d", "1 0 0 2", "b - - -"},
		{"(#a.a!b.0&a!c.0)", "a b c", "1 0 0", "c - -"},
		{"(a!c.0&#a.a!b.0)", "a b c", "1 0 0", "c - -"},
		{"([a=b]0&#a.[a=c]0)", "ab c", "0 0 0", "- - -"},
		{"#a.#b.(a!b.0&c?a.a!b.0)", "c", "2", "-"},
		// what a sign receives over is not yet bound by it
		{"a?a.0", "a", "1", "-"},
		{"a?a.a!b.0", "a b", "2 0", "- -"},
		{"a?a.a?a.a?a.0", "a", "3", "-"},
		{"(a?a.a!b.0&a!c.0)", "a b c", "2 0 1", "c - b"},
	} {
		checkSorts(t, c.p, c.classes, c.levels, c.carried)
	}
}

// TestSortsCarryThemselves has processes that cannot be sorted: no free name has a level.
func TestSortsCarryThemselves(t *testing.T) {
	for _, c := range []struct{ p, classes, carried, cycles string }{
		// at once
		{"a!a.0", "a", "a", "a"},
		{"(a!a.0&b!b.0)", "a b", "a b", "ab"},
		{"[a=b]a!b.0", "ab", "ab ab", "ab"},
		{"a!b.[a=b]0", "ab", "ab ab", "ab"},
		{"a!b.[b=a]0", "ab", "ab ab", "ab"},
		{"a?x.[x=a]0", "a", "a", "a"},
		{"a?x.a!a.0", "a", "a", "a"},
		{"a!b.b!a.a!a.0", "ab", "ab ab", "ab"},
		// behind several others
		{"a!b.b!a.0", "a b", "b a", "ab"},
		{"a!b.b!c.c!a.0", "a b c", "b c a", "abc"},
		{"c!a.(b!c.0&a!b.0)", "a b c", "b c a", "abc"},
		{"a!b.b!c.c!d.d!e.e!a.0", "a b c d e", "b c d e a", "abcde"},
		{"(a!b.0&(c!d.0&(b!c.0&[a=d]0)))", "ad b c", "b c ad b", "abcd"},
		{"a?x.x!a.0", "a", "-", "a"},
		{"a?x.x?y.y?z.z!a.0", "a", "-", "a"},
		// only as sorts are joined
		{"a!b.a!c.b!c.0", "a bc", "bc bc bc", "abc"},
		{"a!b.b!c.a!c.0", "a bc", "bc bc bc", "abc"},
		{"a!b.a!c.b!d.d!c.0", "a bc d", "bc d d bc", "abcd"},
		{"(a!b.0&a?x.x!a.0)", "a b", "b a", "ab"},
		// not on the way round
		{"b!a.a!a.0", "a b", "a a", "ab"},
		{"d!a.a!b.b!a.0", "a b d", "b a a", "abd"},
		{"d!e.e!c.a!b.b!c.c!a.0", "a b c d e", "b c a e c", "abcde"},
		{"a?x.x!x.0", "a", "-", "a"},
		{"a?x.x?y.(b!y.0&y!y.0)", "a b", "- -", "ab"},
		// beside others
		{"(e!f.0&d!a.a!b.b!a.0)", "a b d e f", "b a a f -", "abd"},
		{"(c!c.0&a!b.0)", "a b c", "b - c", "c"},
		{"(a!a.0&#a.a!b.0)", "a b", "a -", "a"},
		{"(#a.a!a.0&a!b.0)", "a b", "b -", ""},
		{"(a!a.0&[b=c]0)", "a bc", "a - -", "a"},
		// of no free name
		{"#x.x!x.0", "", "", ""},
		{"#x.#y.x!y.y!x.0", "", "", ""},
		{"#x.#y.#z.x!y.y!z.z!x.0", "", "", ""},
		{"(a!b.0&#x.x!x.0)", "a b", "b -", ""},
		{"(#x.x!x.0&a!b.0)", "a b", "b -", ""},
		{"a!b.*#x.x?y.[x=y]0", "a b", "b -", ""},
		{"[a=a](0+~.#x.x?y.y!x.0)", "a", "-", ""},
		{"#x.x?x.(a!x.0&x!x.0)", "a", "-", "a"},
		{"#a.a!a.b!c.0", "b c", "c -", ""},
		{"#x.x!a.x!x.0", "a", "a", "a"},
		// no simple ones
		{"*a!a.0", "a", "a", "a"},
		{"(#x.x!x.0+(0&a!b.0))", "a b", "b -", ""},
	} {
		free, _ := impl.FreeNames(c.p)
		dashes := strings.TrimSpace(strings.Repeat("- ", len(free)))
		want := sorts{false, c.classes, dashes, c.carried, c.cycles}
		if told := sortsTold(t, c.p); told != want {
			t.Errorf("%s: %v, not %v", c.p, told, want)
		}
	}
}

// chain sends letters one over the other, from the first one to the last one of a text.
func chain(letters string) string {
	p := "0"
	for i := len(letters) - 2; i >= 0; i-- {
		p = letters[i:i+1] + "!" + letters[i+1:i+2] + "." + p
	}
	return p
}

// spaced returns letters with blanks between them.
func spaced(letters string) string { return strings.Join(strings.Split(letters, ""), " ") }

// TestManySorts has as many names as a process can have.
func TestManySorts(t *testing.T) {
	checkSorts(t, chain(alphabet), spaced(alphabet), levelsFrom(25, 26), spaced(alphabet[1:])+" -")
	round := sorts{false, spaced(alphabet), strings.Repeat("- ", 25) + "-", spaced(alphabet[1:] + "a"), alphabet}
	if told := sortsTold(t, chain(alphabet+"a")); told != round {
		t.Error("round all letters:", told)
	}
	pairs := strings.TrimSpace(strings.Repeat("1 0 ", 13))
	checkSorts(t, letters26, spaced(alphabet), pairs, "b - d - f - h - j - l - n - p - r - t - v - x - z -")
	checkSorts(t, "(a!b.0&"+chain("acegikmoqsuwy")+")", "a bc e g i k m o q s u w y", "12 11 11 10 9 8 7 6 5 4 3 2 1 0", "bc e e g i k m o q s u w y -")
	all := "0"
	for i := range 25 {
		all = "[" + alphabet[i:i+1] + "=" + alphabet[i+1:i+2] + "]" + all
	}
	checkSorts(t, all, alphabet, strings.TrimSpace(strings.Repeat("0 ", 26)), strings.TrimSpace(strings.Repeat("- ", 26)))

	// 59 signs that bind one letter, each inside the one before
	for _, c := range []struct {
		p, level, cycles string
	}{
		{strings.Repeat("a?a.", 59) + "0", "59", ""},
		{strings.Repeat("a?a.", 58) + "a!a.0", "-", "a"},
		{strings.Repeat("a?a.", 58) + "[a=a]0", "58", ""},
		{"a?b." + strings.Repeat("b?b.", 57) + "b!a.0", "-", "a"},
	} {
		want := sorts{c.cycles == "", "a", c.level, "-", c.cycles}
		if told := sortsTold(t, c.p); told != want {
			t.Errorf("%s: %v, not %v", c.p, told, want)
		}
	}
	if told := sortsTold(t, strings.Repeat("#a.", 58)+"a!a.0"); told != (sorts{}) {
		t.Error("58 names of its own:", told)
	}
	if told := sortsTold(t, strings.Repeat("#a.", 59)+"0"); told != (sorts{sorted: true}) {
		t.Error("59 names of its own:", told)
	}
	// all letters, and 34 signs behind the last one
	long := strings.TrimSuffix(chain(alphabet), "0") + strings.Repeat("z?z.", 34) + "0"
	checkSorts(t, long, spaced(alphabet), levelsFrom(59, 26), spaced(alphabet[1:])+" -")
}

// levelsFrom returns n numbers, downwards.
func levelsFrom(first, n int) string {
	var out []string
	for i := range n {
		out = append(out, strconv.Itoa(first-i))
	}
	return strings.Join(out, " ")
}

// noNames has texts that are no name.
func noNames() []string {
	return []string{"", "aa", "ab", "a ", " a", "A", "1", "0", "!", "é", "\xff", "\x00", "`", "{", strings.Repeat("a", 1000000)}
}

// callsForName returns the calls of chapter 6 for a process and a name, which tell whether their result is zero.
func callsForName() map[string]func(p, a string) (zero, ok bool) {
	return map[string]func(p, a string) (zero, ok bool){
		"HaveSameSort a a": func(p, a string) (bool, bool) { is, ok := impl.HaveSameSort(p, a, a); return !is, ok },
		"LevelOf":          func(p, a string) (bool, bool) { n, ok := impl.LevelOf(p, a); return n == 0, ok },
		"SortText":         func(p, a string) (bool, bool) { s, ok := impl.SortText(p, a); return s == "", ok },
		"CarriedBy":        func(p, a string) (bool, bool) { s, ok := impl.CarriedBy(p, a); return s == "", ok },
		"UsesOf":           func(p, a string) (bool, bool) { s, ok := impl.UsesOf(p, a); return s == "", ok },
		"CountUses": func(p, a string) (bool, bool) {
			sends, receives, handed, ok := impl.CountUses(p, a)
			return sends == 0 && receives == 0 && handed == 0, ok
		},
		"IsLinear": func(p, a string) (bool, bool) { is, ok := impl.IsLinear(p, a); return !is, ok },
	}
}

// callsForProcess returns those for a process alone.
func callsForProcess() map[string]func(p string) (zero, ok bool) {
	return map[string]func(p string) (zero, ok bool){
		"CanBeSorted": func(p string) (bool, bool) { is, ok := impl.CanBeSorted(p); return !is, ok },
		"SortClasses": func(p string) (bool, bool) { list, ok := impl.SortClasses(p); return len(list) == 0, ok },
		"CycleNames":  func(p string) (bool, bool) { s, ok := impl.CycleNames(p); return s == "", ok },
		"SendsLast":   func(p string) (bool, bool) { is, ok := impl.SendsLast(p); return !is, ok },
	}
}

// checkNoName checks that all calls for a process and a text that is no free name of it fail.
func checkNoName(t *testing.T, p, a string) {
	t.Helper()
	for name, f := range callsForName() {
		if zero, ok := f(p, a); !zero || ok {
			t.Errorf("%s(%.40q, %.20q): %v %v", name, p, a, zero, ok)
		}
	}
	free, _ := impl.FreeNames(p)
	for _, other := range free + "a" {
		same, ok := impl.HaveSameSort(p, a, string(other))
		again, okAgain := impl.HaveSameSort(p, string(other), a)
		if same || ok || again || okAgain {
			t.Errorf("HaveSameSort(%.40q, %.20q, %q): %v %v %v %v", p, a, other, same, ok, again, okAgain)
		}
	}
}

func TestNamesThatAreNotFree(t *testing.T) {
	for _, p := range []string{"0", "a!b.0", "(a!b.0&a?x.x!c.0)", "a!a.0", "#a.a!b.0", "a?a.a!b.0", "([a=b]0&#c.c!c.0)", "*b?a.a!a.0", letters25} {
		for _, a := range noNames() {
			checkNoName(t, p, a)
		}
		free, _ := impl.FreeNames(p)
		for _, a := range alphabet {
			if strings.ContainsRune(free, a) {
				for _, f := range []string{"HaveSameSort a a", "CarriedBy", "UsesOf", "CountUses", "IsLinear"} {
					if _, ok := callsForName()[f](p, string(a)); !ok {
						t.Error(f, "fails for", p, string(a))
					}
				}
				continue
			}
			checkNoName(t, p, string(a))
		}
	}
	for _, a := range alphabet {
		if is, ok := impl.HaveSameSort(letters26, string(a), "a"); is != (a == 'a') || !ok {
			t.Error("all letters are free:", string(a), is, ok)
		}
	}
}

func TestNoProcessesOfChapter6(t *testing.T) {
	for _, p := range noProcesses() {
		for name, f := range callsForProcess() {
			if zero, ok := f(p); !zero || ok {
				t.Errorf("%s(%.40q): %v %v", name, p, zero, ok)
			}
		}
		for _, a := range append(noNames(), "a", "b", "x", "z") {
			checkNoName(t, p, a)
		}
	}
}

// TestClassesAreNew changes the classes that are returned.
func TestClassesAreNew(t *testing.T) {
	const p = "([a=c]0&b!d.0)"
	list, _ := impl.SortClasses(p)
	for i := range list {
		list[i] = "changed"
	}
	if told := sortsTold(t, p); told != (sorts{true, "ac b d", "0 1 0 0", "- d - -", ""}) {
		t.Error("changed:", told)
	}
}
