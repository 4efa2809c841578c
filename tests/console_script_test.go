package tests

import (
	"slices"
	"strings"
	"testing"

	"loop.example/g01175/impl"
)

// TestNumbersInLines has a process with 4 reductions.
func TestNumbersInLines(t *testing.T) {
	const p = "(~.a!a.0+(~.b!b.0+(~.c!c.0+~.d!d.0)))"
	for k, name := range []string{"a", "b", "c", "d"} {
		behind := name + "!" + name + ".0"
		checkLine(t, p, "go "+string(rune('0'+k)), behind, behind)
	}
	for _, k := range []string{"4", "5", "9", "10", "12", "100", "256", "99999", "100000", "999998", "999999"} {
		checkLine(t, p, "go "+k, kept, "no")
	}
	for _, k := range []string{
		"", "00", "01", "03", "000000", "0000001", "010", "099999", "+0", "+1", "-0", "-1", "-999999", "--1", "1000000", "1000001", "9999999", "01000000",
		"4294967296", "4294967297", "9223372036854775807", "9223372036854775808", "18446744073709551616", "18446744073709551617", strings.Repeat("9", 400), strings.Repeat("0", 400) + "1",
		"a", "K", "1a", "a1", "0x1", "0b1", "0o1", "1_0", "1.", "1.0", ".1", "1e0", "1,0", "(1)", "*1", "1\t", "\t1", "1\r", "1\x00", "\x001", "１", "١", "\xff", "½",
	} {
		checkLine(t, p, "go "+k, kept, "what")
	}
}

// TestWordsThatAreNone has lines with a word that is no process, no name or no number.
func TestWordsThatAreNone(t *testing.T) {
	for _, bad := range noProcesses() {
		if len(bad) > 1000 || strings.Contains(bad, "\n") {
			continue
		}
		for _, first := range []string{"take ", "beside ", "or "} {
			checkLine(t, twoWays, first+bad, kept, "what")
		}
	}
	for _, bad := range append(noNames(), "0", "~", "a!b.0", "é", "\xe9", "A", "Z", "`", "{", "@", "[", "X", "Y") {
		if len(bad) > 1000 || strings.Contains(bad, "\n") {
			continue
		}
		for _, line := range []string{"hide " + bad, "truth " + bad, "rename " + bad + " a", "rename a " + bad, "rename " + bad + " " + bad} {
			checkLine(t, twoWays, line, kept, "what")
		}
	}
	for _, name := range alphabet {
		a := string(name)
		for _, line := range []string{"hide " + a, "rename " + a + " " + a, "rename a " + a, "rename " + a + " z"} {
			if _, s, ok := impl.DeskLine(twoWays, line); s == "what" || s == "no" || !ok {
				t.Error(line, s, ok)
			}
		}
		checkLine(t, twoWays, "truth "+a, kept, "no")
	}
	// a word that is none is told before a call that would fail
	for _, line := range []string{"beside x", "or x", "hide 0", "go x", "go 00", "truth 0"} {
		checkLine(t, owns(6), line, kept, "what")
	}
}

// TestNumbersOfWords has a word too few or too many, and blanks in all places, which make words that are empty.
func TestNumbersOfWords(t *testing.T) {
	for _, line := range linesOfTable() {
		words := strings.Split(line, " ")
		for i := range len(words) + 1 {
			for _, more := range []string{"", "a", "0", "show", line} {
				longer := slices.Insert(slices.Clone(words), i, more)
				checkLine(t, twoWays, strings.Join(longer, " "), kept, "what")
			}
			checkLine(t, twoWays, strings.Join(slices.Insert(slices.Clone(words), i, "", ""), " "), kept, "what")
			if i < len(words) {
				checkLine(t, twoWays, strings.Join(slices.Delete(slices.Clone(words), i, i+1), " "), kept, "what")
				less := slices.Clone(words)
				less[i] = ""
				checkLine(t, twoWays, strings.Join(less, " "), kept, "what")
			}
		}
	}
	for n := range 5 {
		checkLine(t, twoWays, strings.Repeat(" ", n), kept, "what")
	}
}

// TestOtherFirstWords changes the first word of each line of the table by a letter.
func TestOtherFirstWords(t *testing.T) {
	known := map[string]bool{}
	for _, line := range linesOfTable() {
		word, _, _ := strings.Cut(line, " ")
		known[word] = true
	}
	for _, line := range linesOfTable() {
		word, _, _ := strings.Cut(line, " ")
		rest := line[len(word):]
		others := []string{strings.ToUpper(word), strings.ToUpper(word[:1]) + word[1:], word + "s", "\"" + word + "\"", word + ":", "_" + word, word + word}
		for i := range len(word) + 1 {
			for _, c := range "az0.\t\r\x00é" {
				others = append(others, word[:i]+string(c)+word[i:])
			}
			others = append(others, word[:i]+"\xff"+word[i:], word[:i])
			if i < len(word) {
				others = append(others, word[:i]+word[i+1:])
			}
		}
		for _, other := range others {
			if !known[other] {
				checkLine(t, twoWays, other+rest, kept, "what")
			}
		}
		checkLine(t, twoWays, strings.ReplaceAll(line, " ", "\t")+"\t", kept, "what")
		checkLine(t, twoWays, line+"\r", kept, "what")
	}
	for _, line := range []string{"no", "what", "-", "yes", "not", "0", "a", "fly", "quit", "help", "take", "P", "X Y", "\x00", "\xff", "\xff\xfe show", "shöw", "ｓｈｏｗ", "show\u00a0", "show\u2028", "take\u00a00", "next;free", "normal,names", "next, all", twoWays} {
		checkLine(t, twoWays, line, kept, "what")
	}
}

// TestNamesThatSpellReplies has names that are told as they are: as they spell no, such a reply is no.
func TestNamesThatSpellReplies(t *testing.T) {
	for _, c := range [][2]string{{"n!o.0", "free"}, {"n?n.o?o.0", "bound"}, {"(o!a.0&n!a.0)", "sends"}, {"(o?a.0+n?a.0)", "receives"}} {
		checkLine(t, c[0], c[1], kept, "no")
		checkScript(t, scriptOf("take "+c[0], c[1], "show"), c[0], c[0], "no", c[0])
		if numbers, ok := impl.FailedLines(scriptOf("take "+c[0], c[1], "show")); !slices.Equal(numbers, []int{2}) || !ok {
			t.Error(c, numbers, ok)
		}
	}
	checkScript(t, scriptOf("take n!o.n!t.0", "free"), "n!o.n!t.0", "n!o.n!t.0", "not")
}

func TestScripts(t *testing.T) {
	p, first, renamed := twoWays, "a!b.0", "a?c.(c!a.0&#d.d!c.0)"
	both := "(*a?c.c?d.c?e.d!d.0&*b?c.c?d.c?e.e!e.0)"
	for _, c := range []struct {
		s, behind string
		replies   []string
	}{
		{"", p, nil},
		{"\n", p, []string{"what"}},
		{"\n\n\n", p, []string{"what", "what", "what"}},
		{"show\n", p, []string{p}},
		{"show\n\nshow\n", p, []string{p, "what", p}},
		{"\nshow\n", p, []string{"what", p}},
		{"go 0\ngo 0\nshow\n", first, []string{first, "no", first}},
		{"go 2\ngo 0\nundo\n", first, []string{"no", first, "what"}},
		{"go 1\r\nshow\n", p, []string{"what", p}},
		{"take 0\nfree\nbound\nthreads\nparts\nnext\nsends\nreceives\nlongest\nall\n", "0", []string{"0", "-", "-", "-", "-", "-", "-", "-", "0", "0"}},
		{"take a!b.0\nbeside a?x.x!c.0\nnext\ngo 0\nor ~.0\nhide c\nnext\nrename b d\n", "#a.(d!a.0+~.0)", []string{first, "(a!b.0&a?d.d!c.0)", "b!c.0", "b!c.0", "(b!c.0+~.0)", "#a.(b!a.0+~.0)", "0", "#a.(d!a.0+~.0)"}},
		{"take " + owns(6) + "\nnormal\nshow\nnext\ntake 0\nnext\n", "0", []string{owns(6), "no", owns(6), "no", "0", "-"}},
		{"take *0\nnext\nnormal\nnext\n", "0", []string{"*0", "no", "0", "-"}},
		{"take " + example + "\nnames\nrename b a\nbound\n", renamed, []string{example, "a?c.(c!b.0&#d.d!c.0)", renamed, "cd"}},
		{"take " + truth("a", true) + "\ntruth a\ntruth b\nbeside " + truth("b", false) + "\ntruth a\ntruth b\ntruth c\n", both, []string{truth("a", true), "yes", "no", both, "yes", "not", "no"}},
		{"\xff\n\x00\nshow\n", p, []string{"what", "what", p}},
	} {
		checkScript(t, c.s, c.behind, c.replies...)
	}
}

// TestNoScripts has texts whose last line is not ended, also where nothing else is wrong.
func TestNoScripts(t *testing.T) {
	for _, s := range []string{"show", " ", "\x00", "\xff", "\r", "show\nshow", "show\n ", "\n\nx", "\nshow", "show\r", "show\n\r", "show\u2028", "show\\n", "take 0\n\x00", strings.Repeat("\n", 50) + "show", strings.Repeat("\n", 3000) + "x"} {
		checkNoScript(t, s)
	}
}

func TestMaxLines(t *testing.T) {
	all := make([]string, impl.MaxLines)
	for i := range all {
		all[i] = "1"
	}
	checkScript(t, strings.Repeat("longest\n", impl.MaxLines), twoWays, all...)
	for i := range all {
		all[i] = "what"
	}
	checkScript(t, strings.Repeat("\n", impl.MaxLines), twoWays, all...)
	checkNoScript(t, strings.Repeat("\n", impl.MaxLines-1)+"show")
	for _, line := range []string{"longest\n", "\n", "take 0\n"} {
		for _, n := range []int{impl.MaxLines + 1, impl.MaxLines + 2, 2 * impl.MaxLines, 256 + impl.MaxLines} {
			checkNoScript(t, strings.Repeat(line, n))
		}
	}
	if impl.MaxLines != 50 || impl.MaxScript != 3000 {
		t.Error(impl.MaxLines, impl.MaxScript)
	}
}

// TestMaxScript has scripts with a last line as long as may be, and longer by one.
func TestMaxScript(t *testing.T) {
	for _, start := range []string{"", "take 0\n", "take 0\n\n"} {
		replies := map[string][]string{"": {"what"}, "take 0\n": {"0", "what"}, "take 0\n\n": {"0", "what", "what"}}[start]
		behind := map[bool]string{true: twoWays, false: "0"}[start == ""]
		for _, letter := range []string{"a", " ", "\x00", "\xff"} {
			rest := strings.Repeat(letter, impl.MaxScript-1-len(start))
			checkScript(t, start+rest+"\n", behind, replies...)
			checkScript(t, start+rest[1:]+"\n", behind, replies...)
			checkNoScript(t, start+rest+letter+"\n")
			checkNoScript(t, start+rest+"\n\n")
			checkNoScript(t, start+rest+letter)
		}
	}
	lines := make([]string, 10)
	for i := range lines {
		lines[i] = "take " + strings.Repeat("[a=b]", 58) + "~.0" // 298 bytes
	}
	full := scriptOf(lines...)
	full += strings.Repeat("x", impl.MaxScript-1-len(full)) + "\n"
	replies := slices.Repeat([]string{lines[0][5:]}, 10)
	checkScript(t, full, lines[0][5:], append(replies, "what")...)
	checkNoScript(t, full+"\n")
	checkNoScript(t, "x"+full)
	checkNoScript(t, strings.Repeat(full, 300))
}

// TestLongLines has lines for DeskLine alone, which may have as many bytes as a script.
func TestLongLines(t *testing.T) {
	for _, letter := range []string{"a", " ", "\x00", "\xff"} {
		checkLine(t, twoWays, strings.Repeat(letter, impl.MaxScript), kept, "what")
		checkLine(t, twoWays, "show "+strings.Repeat(letter, impl.MaxScript-5), kept, "what")
		checkNoLine(t, twoWays, strings.Repeat(letter, impl.MaxScript+1))
		checkNoLine(t, twoWays, "show "+strings.Repeat(letter, impl.MaxScript))
	}
	for _, line := range []string{"\n", "show\n", "\nshow", "show\nshow", "show\n\n", "take\n0", "take 0\n", "take 0\nshow\n", "fly\n", "\r\n", strings.Repeat("a", impl.MaxScript-1) + "\n", strings.Repeat("\n", impl.MaxScript)} {
		checkNoLine(t, twoWays, line)
	}
	checkLine(t, twoWays, "", kept, "what")
}

// TestNoProcessesOnTheDesk requires a process, whatever the line is.
func TestNoProcessesOnTheDesk(t *testing.T) {
	for _, bad := range noProcesses() {
		for _, line := range append(linesOfTable(), "", "fly", "go 01", "take", "hide", "show ", "\n", strings.Repeat("a", impl.MaxScript+1)) {
			checkNoLine(t, bad, line)
		}
	}
}
