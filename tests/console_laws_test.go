package tests

import (
	"regexp"
	"slices"
	"strconv"
	"strings"
	"testing"

	"loop.example/g01175/impl"
)

// Patterns of lines, whole ones, by the words that they want.
var (
	wantsProcess = regexp.MustCompile(`^(take|beside|or) (\S+)$`)
	wantsName    = regexp.MustCompile(`^(hide|truth) ([a-z])$`)
	wantsNames   = regexp.MustCompile(`^(rename) ([a-z]) ([a-z])$`)
	wantsNumber  = regexp.MustCompile(`^(go) (0|[1-9]\d{0,5})$`)
	wantsNothing = regexp.MustCompile(`^(normal|names|show|free|bound|threads|parts|next|all|stuck|longest|sends|receives)$`)
)

// wordsByPattern returns the words of a line of the table, or none.
func wordsByPattern(line string) []string {
	for _, pattern := range []*regexp.Regexp{wantsProcess, wantsName, wantsNames, wantsNumber, wantsNothing} {
		if found := pattern.FindStringSubmatch(line); found != nil && len(found[0]) == len(line) {
			if pattern != wantsProcess || impl.IsProcess(found[2]) {
				return found[1:]
			}
		}
	}
	return nil
}

// effectByCalls returns the process behind a line that changes it; is tells whether it is one.
func effectByCalls(p string, words []string) (behind string, ok, is bool) {
	switch words[0] {
	case "take":
		return words[1], true, true
	case "beside":
		behind, ok = impl.JoinProcesses(p, words[1])
	case "or":
		behind, ok = impl.SumOf(p, words[1])
	case "hide":
		behind, ok = impl.HideName(p, words[1])
	case "rename":
		behind, ok = impl.RenameFree(p, words[1], words[2])
	case "normal":
		behind, ok = impl.NormalForm(p)
	case "names":
		behind, ok = impl.CanonicalNames(p)
	case "go":
		list, okList := impl.ReductionsOf(p)
		k, _ := strconv.Atoi(words[1])
		if ok = okList && k < len(list); ok {
			behind = list[k]
		}
	default:
		return p, true, false
	}
	return behind, ok, true
}

// textByCalls answers a line that asks for a text or a number.
func textByCalls(p string, words []string) (string, bool) {
	switch words[0] {
	case "show":
		return p, true
	case "free":
		return impl.FreeNames(p)
	case "bound":
		return impl.BoundNames(p)
	case "sends":
		return impl.SendsOf(p)
	case "receives":
		return impl.ReceivesOf(p)
	case "longest":
		n, ok := impl.LongestRun(p)
		return strconv.Itoa(n), ok
	}
	is, ok := impl.TruthOf(p, words[1])
	return map[bool]string{true: "yes", false: "not"}[is], ok
}

// answerByCalls answers a line that changes nothing.
func answerByCalls(p string, words []string) (string, bool) {
	lists := map[string]func(string) ([]string, bool){
		"threads": impl.ThreadsOf, "parts": impl.ComponentsOf, "next": impl.ReductionsOf, "all": impl.ReachedFrom, "stuck": impl.StuckFrom,
	}
	call, isList := lists[words[0]]
	if !isList {
		return textByCalls(p, words)
	}
	list, ok := call(p)
	reply := ""
	for i, q := range list {
		if i > 0 {
			reply += " "
		}
		reply += q
	}
	return reply, ok
}

// lineByCalls returns the process behind a line, and its reply.
func lineByCalls(p, line string) (behind, reply string) {
	words := wordsByPattern(line)
	if words == nil {
		return p, "what"
	}
	behind, ok, is := effectByCalls(p, words)
	reply = behind
	if !is {
		reply, ok = answerByCalls(p, words)
	}
	if !ok {
		return p, "no"
	}
	return behind, orDash(reply)
}

// checkByCalls checks one line, and returns its reply.
func checkByCalls(t *testing.T, p, line string) string {
	t.Helper()
	behind, reply := lineByCalls(p, line)
	q, s, ok := impl.DeskLine(p, line)
	if q != behind || s != reply || !ok {
		t.Errorf("%s, %.60q: %s, %q, %v, not %s, %q", p, line, q, s, ok, behind, reply)
	}
	return reply
}

// linesFor makes lines of each kind, some of them none of the table.
func (m *maker) linesFor() []string {
	lines := append(linesOfTable(), "truth b")
	for _, first := range []string{"take ", "beside ", "or "} {
		lines = append(lines, first+m.process(1+m.below(9)), first+m.offering(2+m.below(6)))
	}
	lines = append(lines, "hide "+m.name(), "truth "+m.name(), "rename "+m.name()+" "+m.name())
	lines = append(lines, "go 0", "go 1", "go "+strconv.Itoa(m.below(5)))
	return lines
}

// spoiled changes one byte of a line, or leaves one out, or puts one in.
func (m *maker) spoiled(line string) string {
	i := m.below(len(line) + 1)
	c := []string{" ", "a", "0", ".", "\t", "\x00", "\xff", "("}[m.below(8)]
	if i == len(line) || m.below(3) == 0 {
		return line[:i] + c + line[i:]
	}
	if m.below(2) == 0 {
		return line[:i] + line[i+1:]
	}
	return line[:i] + c + line[i+1:]
}

// desks has processes of all kinds, with some that are not simple or beyond limits.
func desks() []string {
	all := slices.Concat(notSimple(), beyondLimits(), []string{
		twoWays, served, endless, growing, inTurns, hidden, manyReached, example, scattered, letters25, letters26, owns(5), owns(6), "a?z." + letters25, "a?z.a?z." + letters25,
		truth("a", true), truth("b", false), sideBySide(truth("a", true), truth("a", false)), sideBySide(not("a", "b"), truth("b", true)), silents(59),
	})
	for _, names := range []string{"ab", "abc", "nowy", alphabet} {
		m := maker{state: 10 + uint64(len(names)), names: names}
		for i := range 60 {
			all = append(all, m.process(1+i%20), m.offering(1+i%12))
		}
	}
	return all
}

// TestLinesByCalls compares lines with the calls that they name.
func TestLinesByCalls(t *testing.T) {
	m := maker{state: 10, names: "abcd"}
	told := map[string]int{}
	for _, p := range desks() {
		for _, line := range m.linesFor() {
			word, _, _ := strings.Cut(line, " ")
			switch reply := checkByCalls(t, p, line); reply {
			case "no", "-", "yes", "not":
				told[word+" "+reply]++
			default:
				told[word]++
			}
			if checkByCalls(t, p, m.spoiled(line)) == "what" {
				told["what"]++
			}
		}
	}
	for _, line := range linesOfTable() {
		word, _, _ := strings.Cut(line, " ")
		if told[word]+told[word+" yes"] == 0 {
			t.Error("none is answered:", word)
		}
		if told[word+" no"] == 0 && !slices.Contains([]string{"take", "show", "free", "bound"}, word) {
			t.Error("none is no:", word)
		}
	}
	for _, both := range []string{"what", "free -", "bound -", "threads -", "parts -", "next -", "stuck -", "sends -", "receives -", "truth not"} {
		if told[both] == 0 {
			t.Error("none:", both)
		}
	}
}

// script makes a script of n lines, of which most are of the table.
func (m *maker) script(n int) []string {
	var lines []string
	for range n {
		all := append(m.linesFor(), "go 0", "go 0", "go 1", "normal", "names", "show")
		line := all[m.below(len(all))]
		if m.below(8) == 0 {
			line = m.spoiled(line)
		}
		if m.below(12) == 0 {
			line = "take " + desks()[m.below(40)]
		}
		lines = append(lines, line)
	}
	return lines
}

// TestScriptsByCalls compares scripts with lines that are executed one by one.
func TestScriptsByCalls(t *testing.T) {
	m := maker{state: 11, names: "abc"}
	effects, refused := 0, 0
	for i := range 150 {
		lines := m.script(1 + i%impl.MaxLines)
		p := impl.FirstDesk()
		var replies []string
		for _, line := range lines {
			behind, reply := lineByCalls(p, line)
			checkByCalls(t, p, line)
			if behind != p {
				effects++
			}
			p, replies = behind, append(replies, reply)
		}
		refused += len(failedAmong(replies))
		if s := scriptOf(lines...); len(s) <= impl.MaxScript {
			checkScript(t, s, p, replies...)
			checkNoScript(t, s[:len(s)-1])
		} else {
			checkNoScript(t, s)
		}
	}
	if effects < 500 || refused < 500 {
		t.Error("few:", effects, refused)
	}
}

// TestBeginningsOfScripts runs the lines of a script one more each time: what they do depends on those before alone.
func TestBeginningsOfScripts(t *testing.T) {
	m := maker{state: 12, names: "abn"}
	for range 12 {
		lines := m.script(25)
		whole, ok := impl.RunScript(scriptOf(lines...))
		if !ok {
			continue
		}
		p := impl.FirstDesk()
		for n := range len(lines) + 1 {
			checkScript(t, scriptOf(lines[:n]...), p, whole[:n]...)
			if n < len(lines) {
				p, _, _ = impl.DeskLine(p, lines[n])
			}
			// lines that are refused may be left out
			left := slices.Clone(lines[:n])
			for _, number := range slices.Backward(failedAmong(whole[:n])) {
				left = slices.Delete(left, number-1, number)
			}
			if n < len(lines) {
				left = append(left, lines[n])
			}
			if q, ok := impl.DeskAfter(scriptOf(left...)); q != p || !ok {
				t.Error(left, q, ok)
			}
		}
	}
}

// TestAnyArgumentsOfChapter10 calls the functions with texts of all kinds: none may panic, and a call fails for what the document refuses alone.
func TestAnyArgumentsOfChapter10(t *testing.T) {
	texts := slices.Concat(noProcesses(), noNames(), notSimple(), desks()[:60], linesOfTable(), []string{"\n", "show\n", "\n\n", "show\nfly\n", "\r\n", strings.Repeat("\n", 51), strings.Repeat("x", 2999) + "\n", strings.Repeat("x", 3000) + "\n"})
	for i, p := range texts {
		for j := i % 7; j < len(texts); j += 7 {
			valid := impl.IsProcess(p) && len(texts[j]) <= 3000 && strings.Count(texts[j], "\n") == 0
			if q, s, ok := impl.DeskLine(p, texts[j]); ok != valid || ok && (s == "" || !impl.IsProcess(q)) || !ok && q+s != "" {
				t.Errorf("%.40q, %.40q: %.40q %.40q %v", p, texts[j], q, s, ok)
			}
			for _, s := range []string{p + texts[j], p + "\n" + texts[j] + "\n", "take " + p + "\n" + texts[j] + "\n"} {
				checkAnyScript(t, s)
			}
		}
	}
	const bytes = "\n\n\n\n \x00\xff0a(go 0show!.?~&+#=*["
	m := maker{state: 13, names: "ab"}
	for range 2000 {
		var s []byte
		for range m.below(40) {
			s = append(s, bytes[m.below(len(bytes))])
		}
		checkAnyScript(t, string(s))
		checkAnyScript(t, string(s)+"\n")
	}
}

// checkAnyScript checks that all calls accept a script, and no other text.
func checkAnyScript(t *testing.T, s string) {
	t.Helper()
	if len(s) > 3000 || strings.Count(s, "\n") > 50 || s != "" && !strings.HasSuffix(s, "\n") {
		checkNoScript(t, s)
		return
	}
	p, replies := impl.FirstDesk(), []string(nil)
	for line := range strings.Lines(s) {
		behind, reply := lineByCalls(p, strings.TrimSuffix(line, "\n"))
		p, replies = behind, append(replies, reply)
	}
	checkScript(t, s, p, replies...)
}
