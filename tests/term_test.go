package tests

import (
	"strings"
	"testing"

	"loop.example/g01175/impl"
)

const example = "a?x.(x!b.0&#b.b!x.0)"

// letters26 sends 13 times, so that all letters are free in it.
const letters26 = "a!b.c!d.e!f.g!h.i!j.k!l.m!n.o!p.q!r.s!t.u!v.w!x.y!z.0"

// letters25 lacks z.
const letters25 = "a!b.c!d.e!f.g!h.i!j.k!l.m!n.o!p.q!r.s!t.u!v.w!x.y!y.0"

const alphabet = "abcdefghijklmnopqrstuvwxyz"

// noProcesses has texts that are no process.
func noProcesses() []string {
	return []string{
		"", " ", "1", "a", "00", "0 ", " 0", "0\n", "0\x00", "\x00", "a!b.", "a!b0", "a!.0", "!b.0", "ab.0", "a!bc.0",
		"A!b.0", "a!B.0", "a?x", "a?x0", "a?X.0", "a?.0", "a.0", "~0", "~", "~.", "~..0", "*", "**", "#.0", "#x0", "#x", "#1.0", "#xy.0",
		"[a=b]", "[a=b0", "[ab]0", "[a=]0", "[=b]0", "[a=b].0", "a=b]0", "[a=1]0", "[a==b]0", "(0", "(0+0", "0+0", "0&0", "(0+)", "(+0)", "(0)", "()",
		"(0&0&0)", "(0+0+0)", "(0+0&0)", "(0|0)", "((0+0)", "(0+0))", "(0&0)0", "a!b.0)", "\xff", "a!\xff.0", "a!\xc3\xa9.0", "é!b.0", "a!b.０",
		strings.Repeat("(", 1000000), strings.Repeat("*", 1000000), strings.Repeat("~.", 100000) + "0", strings.Repeat("*", 299),
	}
}

func TestProcessesAreTold(t *testing.T) {
	for _, p := range []string{"0", "a!b.0", "a!a.0", "a?x.0", "a?a.0", "~.0", "(0+0)", "(0&0)", "#x.0", "[a=b]0", "[a=a]0", "*0", "**0", example, letters26, "((0+~.0)&(*a?z.0&0))"} {
		if !impl.IsProcess(p) {
			t.Error("no process:", p)
		}
	}
	for _, p := range noProcesses() {
		if impl.IsProcess(p) {
			t.Errorf("a process: %.40q", p)
		}
	}
}

// shortProcesses returns all processes of at most n bytes over the names a and b.
func shortProcesses(n int) map[string]bool {
	heads := []string{"~.", "*"}
	for _, a := range "ab" {
		heads = append(heads, "#"+string(a)+".")
		for _, b := range "ab" {
			heads = append(heads, string(a)+"!"+string(b)+".", string(a)+"?"+string(b)+".", "["+string(a)+"="+string(b)+"]")
		}
	}
	byLength := make([][]string, n+1)
	all := map[string]bool{}
	for k := 1; k <= n; k++ {
		if k == 1 {
			byLength[k] = append(byLength[k], "0")
		}
		for _, h := range heads {
			if k > len(h) {
				for _, p := range byLength[k-len(h)] {
					byLength[k] = append(byLength[k], h+p)
				}
			}
		}
		for i := 1; i < k-3; i++ {
			for _, p := range byLength[i] {
				for _, q := range byLength[k-3-i] {
					byLength[k] = append(byLength[k], "("+p+"+"+q+")", "("+p+"&"+q+")")
				}
			}
		}
		for _, p := range byLength[k] {
			all[p] = true
		}
	}
	return all
}

func TestNoOtherTextIsAProcess(t *testing.T) {
	const n = 9
	all := shortProcesses(n)
	if len(all) < 1000 {
		t.Fatal("few:", len(all))
	}
	check := func(text string) {
		if len(text) <= n && impl.IsProcess(text) != all[text] {
			t.Errorf("IsProcess(%q) is %v", text, !all[text])
		}
	}
	for p := range all {
		check(p)
		for i := range p {
			check(p[:i] + p[i+1:])
			for _, c := range "0ab!?.~(+&)#[=]*" {
				check(p[:i] + string(c) + p[i+1:])
				check(p[:i] + string(c) + p[i:])
			}
		}
	}
}

func TestLimitsOfProcesses(t *testing.T) {
	// with 60 signs a process has at most 296 bytes, so that the limit of bytes is never met by itself
	for _, c := range []struct {
		p    string
		want bool
	}{
		{strings.Repeat("~.", 59) + "0", true},
		{strings.Repeat("~.", 60) + "0", false},
		{strings.Repeat("[a=b]", 59) + "0", true},
		{strings.Repeat("[a=b]", 60) + "0", false},
		{strings.Repeat("*", 59) + "0", true},
		{strings.Repeat("*", 60) + "0", false},
		{strings.Repeat("(0+", 29) + "*0" + strings.Repeat(")", 29), true},
		{strings.Repeat("(0+", 29) + "**0" + strings.Repeat(")", 29), false},
		{strings.Repeat("#x.", 99) + "~.0", false},
		{strings.Repeat("[a=b]", 59) + "#x.~.", false},
		{strings.Repeat("[a=b]", 60), false},
	} {
		if impl.IsProcess(c.p) != c.want {
			t.Errorf("%d bytes: not %v", len(c.p), c.want)
		}
		n, ok := impl.SizeOf(c.p)
		if ok != c.want || ok && n != 60 || !ok && n != 0 {
			t.Error("size", n, ok)
		}
	}
}

func TestNumbersOfProcesses(t *testing.T) {
	for _, c := range []struct {
		p           string
		size, depth int
		kind        string
	}{
		{"0", 1, 1, "0"},
		{example, 7, 5, "?"},
		{"a!b.0", 2, 2, "!"},
		{"~.0", 2, 2, "~"},
		{"(0+~.~.0)", 5, 4, "+"},
		{"(~.~.0&0)", 5, 4, "&"},
		{"#x.0", 2, 2, "#"},
		{"[a=b]*0", 3, 3, "="},
		{"**0", 3, 3, "*"},
		{"((0+0)&(0+(0&0)))", 9, 4, "&"},
	} {
		if n, ok := impl.SizeOf(c.p); n != c.size || !ok {
			t.Error("size", c.p, n, ok)
		}
		if n, ok := impl.DepthOf(c.p); n != c.depth || !ok {
			t.Error("depth", c.p, n, ok)
		}
		if s, ok := impl.KindOf(c.p); s != c.kind || !ok {
			t.Error("kind", c.p, s, ok)
		}
	}
}

func TestCountKind(t *testing.T) {
	p := "((a!b.0+a?x.~.0)&#y.[y=a]*a?z.(0&0))"
	for kind, want := range map[string]int{"0": 4, "!": 1, "?": 2, "~": 1, "+": 1, "&": 2, "#": 1, "=": 1, "*": 1} {
		if n, ok := impl.CountKind(p, kind); n != want || !ok {
			t.Error(kind, n, ok)
		}
	}
	if n, ok := impl.CountKind("0", "*"); n != 0 || !ok {
		t.Error("none:", n, ok)
	}
	for _, kind := range []string{"", "a", "00", "!?", "[", "(", ".", "\x00", "\xff", "\ufffd", kindsInOneText} {
		if n, ok := impl.CountKind(p, kind); n != 0 || ok {
			t.Errorf("kind %q: %d %v", kind, n, ok)
		}
	}
}

const kindsInOneText = "0!?~+&#=*"

func TestParts(t *testing.T) {
	for _, c := range []struct{ p, parts string }{
		{"0", ""},
		{example, "(x!b.0&#b.b!x.0)"},
		{"(x!b.0&#b.b!x.0)", "x!b.0 #b.b!x.0"},
		{"(~.0+(0&0))", "~.0 (0&0)"},
		{"a!b.c!d.0", "c!d.0"},
		{"~.~.0", "~.0"},
		{"#x.x!x.0", "x!x.0"},
		{"[a=b]b!a.0", "b!a.0"},
		{"*a?x.0", "a?x.0"},
	} {
		parts, ok := impl.PartsOf(c.p)
		if strings.Join(parts, " ") != c.parts || !ok {
			t.Error(c.p, parts, ok)
		}
		for i := range parts {
			parts[i] = "changed"
		}
		if again, _ := impl.PartsOf(c.p); strings.Join(again, " ") != c.parts {
			t.Error("parts are shared:", c.p, again)
		}
	}
}

func TestSubterms(t *testing.T) {
	for _, c := range []struct{ p, path, want string }{
		{"0", "", "0"},
		{example, "", example},
		{example, "0", "(x!b.0&#b.b!x.0)"},
		{example, "00", "x!b.0"},
		{example, "01", "#b.b!x.0"},
		{example, "0100", "0"},
		{"[a=b]*~.0", "000", "0"},
	} {
		if s, ok := impl.SubtermAt(c.p, c.path); s != c.want || !ok {
			t.Error(c.p, c.path, s, ok)
		}
		if s, ok := impl.ReplaceAt(c.p, c.path, c.want); s != c.p || !ok {
			t.Error("replaced by itself:", c.p, c.path, s, ok)
		}
	}
	for _, path := range []string{"1", "02", "000000", "01000", "a", "0a", " ", "-", "/", "\x00", "\xff", "0\xff", "０", "00 ", strings.Repeat("0", 1000000)} {
		if s, ok := impl.SubtermAt(example, path); s != "" || ok {
			t.Errorf("at %.20q: %q %v", path, s, ok)
		}
		if s, ok := impl.ReplaceAt(example, path, "0"); s != "" || ok {
			t.Errorf("replaced at %.20q: %q %v", path, s, ok)
		}
	}
	if s, ok := impl.SubtermAt("0", "0"); s != "" || ok {
		t.Error("part of 0:", s, ok)
	}
}

func TestReplacing(t *testing.T) {
	for _, c := range []struct{ p, path, q, want string }{
		{"0", "", "a!b.0", "a!b.0"},
		{example, "", "0", "0"},
		{example, "00", "~.0", "a?x.(~.0&#b.b!x.0)"},
		{example, "010", "x!b.0", "a?x.(x!b.0&#b.x!b.0)"},
		{"(0+0)", "0", "(0&0)", "((0&0)+0)"},
		{"(0+0)", "1", "(0&0)", "(0+(0&0))"},
	} {
		if s, ok := impl.ReplaceAt(c.p, c.path, c.q); s != c.want || !ok {
			t.Error(c.p, c.path, c.q, s, ok)
		}
	}
	full := strings.Repeat("[a=b]", 58) + "0"
	if s, ok := impl.ReplaceAt("*0", "0", full); s != "*"+full || !ok {
		t.Error("60 signs:", s, ok)
	}
	if s, ok := impl.ReplaceAt("**0", "00", full); s != "" || ok {
		t.Error("61 signs:", s, ok)
	}
	for _, q := range noProcesses() {
		if s, ok := impl.ReplaceAt(example, "0", q); s != "" || ok {
			t.Errorf("by %.20q: %q", q, s)
		}
	}
}

func TestNames(t *testing.T) {
	for _, c := range []struct {
		p, free, bound string
		wellNamed      bool
	}{
		{"0", "", "", true},
		{example, "ab", "bx", false},
		{"a?x.0", "a", "x", true},
		{"a?a.a!b.0", "ab", "a", false},
		{"a?x.x!b.0", "ab", "x", true},
		{"#x.a!x.0", "a", "x", true},
		{"#x.x?x.x!x.0", "", "x", false},
		{"(#x.0&#x.0)", "", "x", false},
		{"(#x.x!x.0&x!x.0)", "x", "x", false},
		{"(#y.z!y.0+#x.z!x.0)", "z", "xy", true},
		{"[z=b]*~.c!a.0", "abcz", "", true},
		{"#z.[z=b]0", "b", "z", true},
		{"c!b.b!a.a!c.0", "abc", "", true},
		{letters26, alphabet, "", true},
	} {
		if s, ok := impl.FreeNames(c.p); s != c.free || !ok {
			t.Error("free", c.p, s, ok)
		}
		if s, ok := impl.BoundNames(c.p); s != c.bound || !ok {
			t.Error("bound", c.p, s, ok)
		}
		if b, ok := impl.IsWellNamed(c.p); b != c.wellNamed || !ok {
			t.Error("well named", c.p, b, ok)
		}
	}
}

func TestFreshName(t *testing.T) {
	for _, c := range []struct{ taken, want string }{
		{"", "a"}, {"a", "b"}, {"b", "a"}, {"ba", "c"}, {"aab", "c"}, {"zyx", "a"}, {"acb", "d"}, {alphabet[:25], "z"}, {"z" + alphabet[1:], "a"},
	} {
		if s, ok := impl.FreshName(c.taken); s != c.want || !ok {
			t.Error(c.taken, s, ok)
		}
	}
	for _, taken := range []string{alphabet, alphabet + "a", "A", "a b", "a1", "é", "\xff", "a\x00", "{", "`"} {
		if s, ok := impl.FreshName(taken); s != "" || ok {
			t.Errorf("%q: %q %v", taken, s, ok)
		}
	}
}

func TestRenaming(t *testing.T) {
	for _, c := range []struct{ p, old, name, want string }{
		{"0", "a", "b", "0"},
		{example, "a", "b", "b?x.(x!b.0&#b.b!x.0)"},
		{example, "b", "x", "a?a.(a!x.0&#b.b!a.0)"},
		{example, "c", "x", example},
		{example, "x", "c", example},
		{example, "a", "a", example},
		{example, "a", "x", "x?x.(x!b.0&#b.b!x.0)"},
		// what a sign sends over, receives over and compares
		{"a!a.a?x.[a=b][b=a]~.*(a!c.0+0)", "a", "c", "c!c.c?x.[c=b][b=c]~.*(c!c.0+0)"},
		{"a?a.a!a.0", "a", "c", "c?a.a!a.0"},
		{"#a.a!a.0", "a", "c", "#a.a!a.0"},
		{"(#a.a!a.0&a!a.0)", "a", "c", "(#a.a!a.0&c!c.0)"},
		// names that would be captured
		{"#c.a!c.0", "a", "c", "#b.c!b.0"},
		{"#c.(a!c.0&b!d.0)", "a", "c", "#e.(c!e.0&b!d.0)"},
		{"c?c.a!c.0", "a", "c", "c?b.c!b.0"},
		{"#c.c!c.#a.a!c.0", "a", "c", "#c.c!c.#a.a!c.0"},
		{"#c.(0&#c.a!c.0)", "a", "c", "#b.(0&#b.c!b.0)"},
		// the new letter would be captured in its turn
		{"#x.(a!x.0&#b.x!b.0)", "a", "x", "#b.(x!b.0&#a.b!a.0)"},
		{"#x.(a!x.0&#b.x!a.b!b.0)", "a", "x", "#b.(x!b.0&#c.b!x.c!c.0)"},
		// one letter is left
		{"#x." + letters25, "a", "x", "#z." + strings.NewReplacer("a!b", "x!b", "w!x", "w!z").Replace(letters25)},
		// none is needed
		{"#x." + letters26, "x", "a", "#x." + letters26},
		{"#x." + letters26, "a", "b", "#x." + strings.Replace(letters26, "a", "b", 1)},
	} {
		if s, ok := impl.RenameFree(c.p, c.old, c.name); s != c.want || !ok {
			t.Error(c.p, c.old, c.name, s, ok)
		}
	}
	for _, p := range []string{"#x." + letters26, "~.(0&y?x." + letters26 + ")", "*#y.#x." + letters26, "#x.#z." + letters26} {
		if s, ok := impl.RenameFree(p, "a", "x"); s != "" || ok {
			t.Error("no letter is left:", p, s, ok)
		}
	}
	for _, name := range []string{"", "aa", "A", "1", " ", "#", "é", "\x00", "\xff", "`", "{"} {
		if s, ok := impl.RenameFree(example, name, "b"); s != "" || ok {
			t.Errorf("from %q: %q %v", name, s, ok)
		}
		if s, ok := impl.RenameFree(example, "b", name); s != "" || ok {
			t.Errorf("to %q: %q %v", name, s, ok)
		}
	}
}

func TestCanonicalNames(t *testing.T) {
	for _, c := range []struct{ p, want string }{
		{"0", "0"},
		{example, "a?c.(c!b.0&#d.d!c.0)"},
		{"#a.0", "#a.0"},
		{"#z.0", "#a.0"},
		{"#x.#x.x!x.0", "#a.#b.b!b.0"},
		{"(#x.x!b.0&#x.c!x.0)", "(#a.a!b.0&#d.c!d.0)"},
		{"(#x.0&a!b.0)", "(#c.0&a!b.0)"},
		{"a?a.a?a.a!a.0", "a?b.b?c.c!c.0"},
		{"#b.#a.a!b.0", "#a.#b.b!a.0"},
		{"#z." + strings.Replace(letters25, "y!y", "y!z", 1), "#z." + strings.Replace(letters25, "y!y", "y!z", 1)},
		{"#a." + letters25, "#a." + letters25},
		{"(#a.0&" + letters25 + ")", "(#z.0&" + letters25 + ")"},
		{"a?x." + letters26, "a?x." + letters26},
		{strings.Repeat("#a.", 26) + "0", "#a.#b.#c.#d.#e.#f.#g.#h.#i.#j.#k.#l.#m.#n.#o.#p.#q.#r.#s.#t.#u.#v.#w.#x.#y.#z.0"},
	} {
		if s, ok := impl.CanonicalNames(c.p); s != c.want || !ok {
			t.Error(c.p, s, ok)
		}
	}
	for _, p := range []string{strings.Repeat("#a.", 27) + "0", "(#a.0&" + letters26 + ")", "(#a.#a.0&" + letters25 + ")", "(a?x.0&" + letters26 + ")"} {
		if s, ok := impl.CanonicalNames(p); s != "" || ok {
			t.Error("not enough letters:", p, s, ok)
		}
	}
}

func TestAlike(t *testing.T) {
	for _, c := range []struct {
		p, q string
		want bool
	}{
		{"0", "0", true},
		{"0", "~.0", false},
		{example, "a?c.(c!b.0&#d.d!c.0)", true},
		{example, "a?a.(a!b.0&#x.x!a.0)", true},
		{example, "a?c.(c!b.0&#d.c!d.0)", false},
		{example, "c?x.(x!b.0&#b.b!x.0)", false},
		{"a!b.0", "a!c.0", false},
		{"a!b.0", "b!a.0", false},
		{"a!b.0", "a?b.0", false},
		{"#x.a!x.0", "#y.a!y.0", true},
		{"#x.a!x.0", "#a.a!a.0", false},
		{"#x.a!b.0", "#b.a!b.0", false},
		{"#x.a!b.0", "#y.a!b.0", true},
		{"#x.0", "a?x.0", false},
		{"#x.#y.x!y.0", "#y.#x.y!x.0", true},
		{"#x.#y.x!y.0", "#x.#y.y!x.0", false},
		{"#x.#x.x!x.0", "#x.#y.y!y.0", true},
		{"#x.#x.x!x.0", "#y.#x.y!y.0", false},
		{"(0&0)", "(0+0)", false},
		{"(a!b.0&0)", "(0&a!b.0)", false},
		{"[a=b]0", "[b=a]0", false},
		{"*0", "0", false},
		// more signs bind than there are letters
		{strings.Repeat("#a.", 58) + "a!a.0", strings.Repeat("#a.", 57) + "#b.b!b.0", true},
		{strings.Repeat("#a.", 58) + "a!a.0", strings.Repeat("#a.", 57) + "#b.b!a.0", false},
	} {
		for _, pair := range [][2]string{{c.p, c.q}, {c.q, c.p}} {
			if b, ok := impl.AreAlpha(pair[0], pair[1]); b != c.want || !ok {
				t.Error(pair, b, ok)
			}
		}
	}
}

func TestGuardedFiniteSimple(t *testing.T) {
	for _, c := range []struct {
		p                       string
		guarded, finite, simple bool
	}{
		{"0", true, true, true},
		{example, true, true, true},
		{"(0+~.0)", true, true, true},
		{"((a!b.0+a?x.0)+(~.0+0))", true, true, true},
		{"((0&0)+0)", false, true, false},
		{"(0+(0&0))", false, true, false},
		{"(#x.0+0)", false, true, false},
		{"(0+[a=b]0)", false, true, false},
		{"(*a?x.0+0)", false, false, false},
		{"~.a!b.#x.[x=b](0&a?y.(0+#z.0))", false, true, false},
		{"*a?x.0", true, false, true},
		{"*a?x.*x?y.0", true, false, true},
		{"*a?x.**x?y.0", true, false, false},
		{"*a!x.0", true, false, false},
		{"*0", true, false, false},
		{"*~.0", true, false, false},
		{"*(a?x.0+0)", true, false, false},
		{"~.(0&*#x.0)", true, false, false},
		{"*a?x.(0+(0&0))", false, false, false},
	} {
		if b, ok := impl.IsGuarded(c.p); b != c.guarded || !ok {
			t.Error("guarded", c.p, b, ok)
		}
		if b, ok := impl.IsFinite(c.p); b != c.finite || !ok {
			t.Error("finite", c.p, b, ok)
		}
		if b, ok := impl.IsSimple(c.p); b != c.simple || !ok {
			t.Error("simple", c.p, b, ok)
		}
	}
}
