package tests

import (
	"strconv"
	"strings"
	"testing"

	"loop.example/g01175/impl"
)

// nameless writes each name that is bound as the number of signs that bind around its sign, each sign that binds without its name; a name that is free stays. It returns what is left of the text, too.
func nameless(p string, around []byte) (string, string) {
	place := func(name byte) string {
		for i := len(around) - 1; i >= 0; i-- {
			if around[i] == name {
				return strconv.Itoa(i) + "."
			}
		}
		return string(name)
	}
	under := func(head, rest string, bound ...byte) (string, string) {
		s, left := nameless(rest, append(append([]byte{}, around...), bound...))
		return head + s, left
	}
	switch {
	case p[0] == '0':
		return "0", p[1:]
	case p[0] == '(':
		left, rest := under("", p[1:])
		right, behind := under("", rest[1:])
		return "(" + left + rest[:1] + right + ")", behind[1:]
	case p[0] == '#':
		return under("#", p[3:], p[1])
	case p[0] == '[':
		return under("["+place(p[1])+"="+place(p[3])+"]", p[5:])
	case p[0] == '~':
		return under("~", p[2:])
	case p[0] == '*':
		return under("*", p[1:])
	case p[1] == '!':
		return under(place(p[0])+"!"+place(p[2])+" ", p[4:])
	}
	return under(place(p[0])+"? ", p[4:], p[2])
}

func namelessOf(p string) string {
	s, _ := nameless(p, nil)
	return s
}

// maker makes processes by a rule, the same ones each time.
type maker struct {
	state uint64
	names string
}

func (m *maker) below(n int) int {
	m.state = m.state*6364136223846793005 + 1442695040888963407
	return int(m.state>>33) % n
}

func (m *maker) name() string {
	i := m.below(len(m.names))
	return m.names[i : i+1]
}

// process makes one of n signs.
func (m *maker) process(n int) string {
	if n <= 1 {
		return "0"
	}
	if n >= 4 && m.below(3) == 0 {
		k := 1 + m.below(n-2)
		return "(" + m.process(k) + []string{"+", "&"}[m.below(2)] + m.process(n-1-k) + ")"
	}
	rest := m.process(n - 1)
	switch m.below(8) {
	case 0, 1:
		return "#" + m.name() + "." + rest
	case 2:
		return m.name() + "?" + m.name() + "." + rest
	case 3:
		return "[" + m.name() + "=" + m.name() + "]" + rest
	case 4:
		return []string{"~.", "*"}[m.below(2)] + rest
	}
	return m.name() + "!" + m.name() + "." + rest
}

// manyProcesses returns all short ones over a and b, and longer ones that are made.
func manyProcesses() []string {
	var out []string
	for p := range shortProcesses(9) {
		out = append(out, p)
	}
	for _, names := range []string{"ab", "abc", "abcd", "abcxyz", alphabet} {
		m := maker{state: uint64(len(names)), names: names}
		for i := range 400 {
			out = append(out, m.process(2+i%24))
		}
	}
	return out
}

// renamedNameless puts one free name in the place of another in what nameless writes, where only free names are letters.
func renamedNameless(p, old, name string) string {
	return strings.ReplaceAll(namelessOf(p), old, name)
}

func TestRenamingAlone(t *testing.T) {
	for _, p := range manyProcesses() {
		for _, old := range []string{"a", "b", "x"} {
			for _, name := range []string{"a", "b", "c", "x"} {
				s, ok := impl.RenameFree(p, old, name)
				if !ok {
					t.Fatal("no renaming:", p, old, name)
				}
				if namelessOf(s) != renamedNameless(p, old, name) {
					t.Fatal("renamed otherwise:", p, old, name, s)
				}
			}
		}
	}
}

func TestCanonicalNamesAreTheSame(t *testing.T) {
	canonical := map[string]string{}
	for _, p := range manyProcesses() {
		s, ok := impl.CanonicalNames(p)
		if !ok {
			t.Fatal("no canonical names:", p)
		}
		if namelessOf(s) != namelessOf(p) {
			t.Fatal("not alike:", p, s)
		}
		if before, ok := canonical[namelessOf(p)]; ok && before != s {
			t.Fatal("alike, but:", before, s)
		}
		canonical[namelessOf(p)] = s
		if well, ok := impl.IsWellNamed(s); !well || !ok {
			t.Fatal("not well named:", s)
		}
		if again, ok := impl.CanonicalNames(s); again != s || !ok {
			t.Fatal("not the same again:", s, again)
		}
		if same, ok := impl.AreAlpha(p, s); !same || !ok {
			t.Fatal("told as not alike:", p, s)
		}
	}
}

func TestAlikeAsNameless(t *testing.T) {
	var all []string
	for p := range shortProcesses(8) {
		if strings.ContainsAny(p, "#?") {
			all = append(all, p)
		}
	}
	for _, p := range all {
		for _, q := range all {
			if same, ok := impl.AreAlpha(p, q); same != (namelessOf(p) == namelessOf(q)) || !ok {
				t.Fatal(p, q, same, ok)
			}
		}
	}
}

func TestSizesAgree(t *testing.T) {
	for _, p := range manyProcesses() {
		n, ok := impl.SizeOf(p)
		sum := 0
		for _, kind := range kindsInOneText {
			k, _ := impl.CountKind(p, string(kind))
			sum += k
		}
		parts, _ := impl.PartsOf(p)
		below, deepest := 0, 0
		for i, part := range parts {
			k, _ := impl.SizeOf(part)
			d, _ := impl.DepthOf(part)
			below, deepest = below+k, max(deepest, d)
			if s, _ := impl.SubtermAt(p, strconv.Itoa(i)); s != part {
				t.Fatal("subterm", p, i, s)
			}
		}
		d, _ := impl.DepthOf(p)
		if !ok || sum != n || below+1 != n || deepest+1 != d {
			t.Fatal(p, n, sum, below, d)
		}
	}
}

// TestAnyArguments calls every function of chapter 1 with texts of all kinds: none may panic, and a call that fails returns zero values.
func TestAnyArguments(t *testing.T) {
	texts := append(noProcesses(), "0", "a", "b", "01", "!", "*", example, letters26, alphabet)
	for _, p := range texts {
		valid := impl.IsProcess(p)
		checkNumbers(t, p, valid)
		checkTexts(t, p, valid)
		checkFlags(t, p, valid)
		for _, q := range texts {
			checkTwo(t, p, q)
			for _, r := range []string{"", "a", "x", "0", "é", "\xff"} {
				s, ok := impl.ReplaceAt(p, r, q)
				checkZero(t, "ReplaceAt", ok, s == "")
				s, ok = impl.RenameFree(p, q, r)
				checkZero(t, "RenameFree", ok, s == "")
				s, ok = impl.RenameFree(p, r, q)
				checkZero(t, "RenameFree", ok, s == "")
			}
		}
	}
}

// checkZero tells an error unless the result of a call that failed is zero.
func checkZero(t *testing.T, name string, ok, zero bool) {
	t.Helper()
	if !ok && !zero {
		t.Error(name, "fails with a result")
	}
}

func checkNumbers(t *testing.T, p string, valid bool) {
	for name, f := range map[string]func(string) (int, bool){"SizeOf": impl.SizeOf, "DepthOf": impl.DepthOf} {
		if n, ok := f(p); ok != valid || (n == 0) == valid {
			t.Errorf("%s(%.20q): %d %v", name, p, n, ok)
		}
	}
}

func checkTexts(t *testing.T, p string, valid bool) {
	for name, f := range map[string]func(string) (string, bool){"KindOf": impl.KindOf, "FreeNames": impl.FreeNames, "BoundNames": impl.BoundNames, "CanonicalNames": impl.CanonicalNames} {
		if s, ok := f(p); ok != valid || !ok && s != "" {
			t.Errorf("%s(%.20q): %q %v", name, p, s, ok)
		}
	}
	if parts, ok := impl.PartsOf(p); ok != valid || !ok && parts != nil {
		t.Errorf("PartsOf(%.20q): %q %v", p, parts, ok)
	}
	s, ok := impl.FreshName(p)
	checkZero(t, "FreshName", ok, s == "")
}

func checkFlags(t *testing.T, p string, valid bool) {
	for name, f := range map[string]func(string) (bool, bool){"IsWellNamed": impl.IsWellNamed, "IsGuarded": impl.IsGuarded, "IsFinite": impl.IsFinite, "IsSimple": impl.IsSimple} {
		if b, ok := f(p); ok != valid || !ok && b {
			t.Errorf("%s(%.20q): %v %v", name, p, b, ok)
		}
	}
}

func checkTwo(t *testing.T, p, q string) {
	same, ok := impl.AreAlpha(p, q)
	if ok != (impl.IsProcess(p) && impl.IsProcess(q)) || same && p != q {
		t.Errorf("AreAlpha(%.20q, %.20q): %v %v", p, q, same, ok)
	}
	s, ok := impl.SubtermAt(p, q)
	checkZero(t, "SubtermAt", ok, s == "")
	n, ok := impl.CountKind(p, q)
	checkZero(t, "CountKind", ok, n == 0)
}
