package tests

import (
	"strings"
	"testing"

	"loop.example/g01175/impl"
)

// machineIn returns the machine that a text tells: its own names, the threads that are ready, and those that wait.
func machineIn(text string) impl.Machine {
	fields := strings.Split(text, "|")
	return impl.Machine{Own: fields[0], Ready: strings.Fields(fields[1]), Waiting: strings.Fields(fields[2])}
}

// machineTold returns the text for which machineIn returns the machine.
func machineTold(m impl.Machine) string {
	return m.Own + "|" + strings.Join(m.Ready, " ") + "|" + strings.Join(m.Waiting, " ")
}

// checkTick checks what a tick of a machine leads to, with its event; if none is wanted, the machine is one, but the tick has to fail.
func checkTick(t *testing.T, before, event, after string) {
	t.Helper()
	m, told, ok := impl.TickMachine(machineIn(before))
	if event == "" {
		after = "||"
	}
	if machineTold(m) != after || told != event || ok != (event != "") {
		t.Errorf("%s: %q %s %v, not %q %s", before, told, machineTold(m), ok, event, after)
	}
	if !impl.IsMachine(machineIn(before)) || !impl.IsMachine(machineIn(after)) {
		t.Error("no machine:", before, after)
	}
	if is, ok := impl.IsAtRest(machineIn(before)); is != strings.Contains(before, "||") || !ok {
		t.Error("at rest:", before, is, ok)
	}
}

// TestTicksByKind has all kinds of threads but those that offer something.
func TestTicksByKind(t *testing.T) {
	for _, c := range [][3]string{
		{"|0|", "0", "||"},
		{"|0 a!b.0 0|c!d.0", "0", "|a!b.0 0|c!d.0"},
		{"ba|0|a!b.0", "0", "ba||a!b.0"},
		// both parts are ready behind all others
		{"|(a!b.0&~.0)|", "&", "|a!b.0 ~.0|"},
		{"|(0&0) a!b.0 0|c!d.0", "&", "|a!b.0 0 0 0|c!d.0"},
		{"|((a!b.0&0)&(~.0&b?x.0)) 0|", "&", "|0 (a!b.0&0) (~.0&b?x.0)|"},
		{"|(b!a.0&a!b.0)|a?x.0 b?x.0", "&", "|b!a.0 a!b.0|a?x.0 b?x.0"},
		{"x|(#x.0&*a?x.0)|", "&", "x|#x.0 *a?x.0|"},
		// what compares names
		{"|[a=a]b!c.0|", "=", "|b!c.0|"},
		{"|[z=z](0&0) a!b.0|c!d.0", "=", "|a!b.0 (0&0)|c!d.0"},
		{"|[a=a][b=b]0|", "=", "|[b=b]0|"},
		{"|[a=a][a=b]0|", "=", "|[a=b]0|"},
		{"|[a=b]0|", ".", "||[a=b]0"},
		{"|[a=b][c=c]0 0|[b=a]0", ".", "|0|[b=a]0 [a=b][c=c]0"},
		{"|[y=z]y!z.0|y?x.0", ".", "||y?x.0 [y=z]y!z.0"},
		{"|[a=b]a?x.0|a!b.0", ".", "||a!b.0 [a=b]a?x.0"},
		{"ab|[a=b]0|", ".", "ab||[a=b]0"},
		// silent steps
		{"|~.a!b.0|", "~", "|a!b.0|"},
		{"|~.~.0 a!b.0|c!d.0", "~", "|a!b.0 ~.0|c!d.0"},
		{"|~.a!b.0|a?x.0", "~", "|a!b.0|a?x.0"},
		// at rest there is no tick
		{"||", "", ""},
		{"abc||", "", ""},
		{"||a!b.0", "", ""},
		{"x||a!x.0 [a=b]0 *b?x.0", "", ""},
	} {
		checkTick(t, c[0], c[1], c[2])
	}
}

func TestNewNames(t *testing.T) {
	for _, c := range [][3]string{
		{"|#x.x!x.0|", "#a", "a|a!a.0|"},
		{"|#a.a!a.0|", "#a", "a|a!a.0|"},
		{"|#x.0|", "#a", "a|0|"},
		{"|#x.~.0 a!b.0 0|c!d.0", "#e", "e|a!b.0 0 ~.0|c!d.0"},
		{"|#x.#y.x!y.0|", "#a", "a|#y.a!y.0|"},
		{"a|#y.a!y.0|", "#b", "ab|a!b.0|"},
		{"|#x.(x!x.0&x?x.x!x.0)|", "#a", "a|(a!a.0&a?x.x!x.0)|"},
		{"|#x.#x.x!x.0|", "#a", "a|#x.x!x.0|"},
		// the first letter that is free in no thread: not in it,
		{"|#x.a!x.0|", "#b", "b|a!b.0|"},
		{"|#x.b!x.0|", "#a", "a|b!a.0|"},
		{"|#x.c!a.x!e.0|", "#b", "b|c!a.b!e.0|"},
		{"|#x.[a=x]0|", "#b", "b|[a=b]0|"},
		{"|#x.b?a.a!x.0|", "#a", "a|b?b.b!a.0|"},
		// nor in one that is ready, nor in one that waits,
		{"|#x.x!x.0 a!a.0|", "#b", "b|a!a.0 b!b.0|"},
		{"|#x.x!x.0 0 (0&~.a?x.0)|", "#b", "b|0 (0&~.a?x.0) b!b.0|"},
		{"|#x.x!x.0|a!b.0", "#c", "c|c!c.0|a!b.0"},
		{"|#x.x!x.0|[c=b]0 *a?x.0", "#d", "d|d!d.0|[c=b]0 *a?x.0"},
		{"|#x.x!x.0 b?a.a!c.0|d!d.0", "#a", "a|b?a.a!c.0 a!a.0|d!d.0"},
		{"|#x.x!x.0 #a.a!a.0|", "#a", "a|#a.a!a.0 a!a.0|"},
		{"|#x.x!x.0 a!b.0|c!e.0 d!g.0", "#f", "f|a!b.0 f!f.0|c!e.0 d!g.0"},
		{"|#x.x!x.0 y!z.0|x!w.0", "#a", "a|y!z.0 a!a.0|x!w.0"},
		// nor among those that were made
		{"a|#x.x!x.0|", "#b", "ab|b!b.0|"},
		{"b|#x.x!x.0|", "#a", "ba|a!a.0|"},
		{"ca|#x.x!x.0|", "#b", "cab|b!b.0|"},
		{"cab|#x.x!x.0|d!d.0", "#e", "cabe|e!e.0|d!d.0"},
		{"zyx|#x.x!x.0|", "#a", "zyxa|a!a.0|"},
		// one letter is left
		{alphabet[:25] + "|#x.x!x.0|", "#z", alphabet + "|z!z.0|"},
		{alphabet[1:] + "|#x.x!x.0|", "#a", alphabet[1:] + "a|a!a.0|"},
		{alphabet[2:] + "|#x.x!x.b!b.0|", "#a", alphabet[2:] + "a|a!a.b!b.0|"},
		{"|#x.x!x.0|" + letters25, "#z", "z|z!z.0|" + letters25},
		{"|#x.x!x.0 " + letters25 + "|", "#z", "z|" + letters25 + " z!z.0|"},
		{"|#z." + letters26 + "|", "#z", "z|" + letters26 + "|"},
		{"|#a." + letters26 + "|", "#a", "a|" + letters26 + "|"},
		{"y|#x.z!x.0|" + letters24, "", ""},
		// none is left
		{alphabet + "|#x.x!x.0|", "", ""},
		{alphabet[3:] + "cab|#x.0|", "", ""},
		{alphabet[:25] + "|#x.x!z.0|", "", ""},
		{alphabet[1:] + "|#x.0 a!a.0|", "", ""},
		{alphabet[1:] + "|#x.0|b!a.0", "", ""},
		{"|#x.0 " + letters26 + "|", "", ""},
		{"|#x.0|" + letters26, "", ""},
		{"z|#x.0|" + letters25, "", ""},
		{"|#x.x!x.0|" + letters24 + " y!y.0 z!z.0", "", ""},
		// no letter is left for another sign that binds the new name
		{"|#z.#a." + letters26 + "|", "", ""},
		{"a|#z.#a." + letters26 + "|", "#z", "az|#a." + letters26 + "|"},
		{"|#z.#a." + letters25 + "|", "#a", "a|#a." + letters25 + "|"},
	} {
		checkTick(t, c[0], c[1], c[2])
	}
}

// TestWaiting has threads of which no offer can be taken.
func TestWaiting(t *testing.T) {
	for _, c := range [][2]string{
		{"|a!b.0|", "||a!b.0"},
		{"|a?x.0|", "||a?x.0"},
		{"|*a?x.0|", "||*a?x.0"},
		{"|(a!b.0+c?x.0)|", "||(a!b.0+c?x.0)"},
		{"|(0+0)|", "||(0+0)"},
		{"|((0+a!b.0)+0)|", "||((0+a!b.0)+0)"},
		{"|(a!b.0+a?x.0)|", "||(a!b.0+a?x.0)"}, // which does not meet itself
		{"|((a?x.0+c!d.0)+(a!b.0+c?x.0))|", "||((a?x.0+c!d.0)+(a!b.0+c?x.0))"},
		// behind all others
		{"|a!b.0 0|c!d.0 b?x.0", "|0|c!d.0 b?x.0 a!b.0"},
		{"|a!b.0|(0+c?x.0) b!c.0", "||(0+c?x.0) b!c.0 a!b.0"},
		{"|*b?x.0 0|a?x.0", "|0|a?x.0 *b?x.0"},
		// others that send over the same name, or receive
		{"|a!b.0|a!b.0", "||a!b.0 a!b.0"},
		{"|a!b.0|a!c.0 (a!d.0+b!a.0)", "||a!c.0 (a!d.0+b!a.0) a!b.0"},
		{"|a?x.0|a?y.0", "||a?y.0 a?x.0"},
		{"|a?x.0|*a?y.0", "||*a?y.0 a?x.0"},
		{"|*a?x.0|a?y.0", "||a?y.0 *a?x.0"},
		{"|*a?x.0|*a?x.0", "||*a?x.0 *a?x.0"},
		{"|(a?x.0+b?x.0)|(b?y.0+a?y.0) *b?x.0", "||(b?y.0+a?y.0) *b?x.0 (a?x.0+b?x.0)"},
		// others over other names, with the name that is sent or received
		{"|a!b.0|b?x.0", "||b?x.0 a!b.0"},
		{"|a!b.0|x?a.0 b?b.0", "||x?a.0 b?b.0 a!b.0"},
		{"|a?b.0|b!a.0", "||b!a.0 a?b.0"},
		// what is behind a match, or behind the first sign, offers nothing
		{"|a!b.0|[a=b]a?x.0", "||[a=b]a?x.0 a!b.0"},
		{"|a?x.0|[a=b](a!b.0+0)", "||[a=b](a!b.0+0) a?x.0"},
		{"|a!b.0|b?x.a?x.0", "||b?x.a?x.0 a!b.0"},
		{"|b!c.a!b.0|a?x.0", "||a?x.0 b!c.a!b.0"},
		{"|(b!c.~.0+0)|a?x.0", "||a?x.0 (b!c.~.0+0)"},
		{"|a!b.0|*b?x.a?x.0", "||*b?x.a?x.0 a!b.0"},
		// nor what is ready itself
		{"|a!b.0 a?x.0|", "|a?x.0|a!b.0"},
		{"|a?x.0 (a!b.0&0) a!c.0|", "|(a!b.0&0) a!c.0|a?x.0"},
		{"bca|a!b.0 ~.0|c?x.0", "bca|~.0|c?x.0 a!b.0"},
	} {
		checkTick(t, c[0], ".", c[1])
	}
}

func TestHandovers(t *testing.T) {
	for _, c := range [][3]string{
		// first the rest of what sends becomes ready, whichever was ready
		{"|a!b.c!c.0|a?x.x!x.0", "a!b", "|c!c.0 b!b.0|"},
		{"|a?x.x!x.0|a!b.c!c.0", "a!b", "|c!c.0 b!b.0|"},
		{"|a!b.c!c.0 0 ~.0|d!d.0 a?x.x!x.0 e!e.0", "a!b", "|0 ~.0 c!c.0 b!b.0|d!d.0 e!e.0"},
		{"|a?x.x!x.0 0 ~.0|d!d.0 a!b.c!c.0 e!e.0", "a!b", "|0 ~.0 c!c.0 b!b.0|d!d.0 e!e.0"},
		{"|a!a.0|a?x.x!x.0", "a!a", "|0 a!a.0|"},
		{"|z!a.0|z?b.b!c.0", "z!a", "|0 a!c.0|"},
		{"ba|a!b.0|a?x.[x=b]0", "a!b", "ba|0 [b=b]0|"},
		// the name comes in place of the one that is received alone
		{"|a!b.0|a?a.a!c.0", "a!b", "|0 b!c.0|"},
		{"|a!b.0|a?x.a!x.x!a.0", "a!b", "|0 a!b.b!a.0|"},
		{"|a!b.x!x.0|a?x.x?x.x!x.0", "a!b", "|x!x.0 b?x.x!x.0|"},
		{"|a!b.0|a?x.(x!c.0&#x.x!d.0)", "a!b", "|0 (b!c.0&#x.x!d.0)|"},
		{"|a!b.0|a?b.b!b.0", "a!b", "|0 b!b.0|"},
		{"|a!b.0|a?x.c!d.0", "a!b", "|0 c!d.0|"},
		// a sign that binds it gets another letter
		{"|a!b.0|a?x.#b.x!b.0", "a!b", "|0 #a.b!a.0|"},
		{"|a!b.0|a?x.#b.b!a.x!b.0", "a!b", "|0 #c.c!a.b!c.0|"},
		{"|a!b.0|a?x.(a?b.x!b.0+b!x.0)", "a!b", "|0 (a?a.b!a.0+b!b.0)|"},
		{"|a!b.0|*a?x.x?b.b!x.0", "a!b", "|0 b?a.a!b.0|*a?x.x?b.b!x.0"},
		{"|a!b.0|a?x.#b.b!a.0", "a!b", "|0 #b.b!a.0|"},
		{"|a!b.0|a?x.#x.#b.x!b.0", "a!b", "|0 #x.#b.x!b.0|"},
		{"|a!b.0|a?x.#b.[x=b]" + strings.Replace(letters25, "c!d", "c!c", 1), "a!b", "|0 #d.[b=d]" + strings.NewReplacer("a!b", "a!d", "c!d", "c!c", "x!", "b!", "w!x", "w!b").Replace(letters25) + "|"},
		{"|a!b.0|a?x.#b." + letters26, "", ""}, // for which no letter is left
		{"|a?x.#b." + letters26 + "|a!b.0", "", ""},
		{"|a!b.0|a?x.#b." + letters25, "a!b", "|0 #z." + strings.NewReplacer("a!b", "a!z", "x", "b").Replace(letters25) + "|"},
		// the first waiting one that can
		{"|a!b.0|a?x.x!c.0 a?x.x!d.0", "a!b", "|0 b!c.0|a?x.x!d.0"},
		{"|a!b.0|b?x.0 [a=b]a?x.0 a?x.x!d.0 *a?x.0", "a!b", "|0 b!d.0|b?x.0 [a=b]a?x.0 *a?x.0"},
		{"|a?x.x!x.0|b!a.0 a!d.0 c!d.0 a!b.0", "a!d", "|0 d!d.0|b!a.0 c!d.0 a!b.0"},
		{"|a?x.0|a!b.0 a!b.0", "a!b", "|0 0|a!b.0"},
		// other parts of sums are left out
		{"|a!b.c!c.0|(b?x.0+a?x.x!d.0)", "a!b", "|c!c.0 b!d.0|"},
		{"|a?x.x!x.0|((c!d.0+0)+(a!b.0+d!c.0))", "a!b", "|0 b!b.0|"},
		{"|(c?x.0+a!b.d!d.0)|a?x.x!x.0", "a!b", "|d!d.0 b!b.0|"},
		{"|((0+a?x.x!x.0)+c!d.0)|a!b.0 c!c.0", "a!b", "|0 b!b.0|c!c.0"},
	} {
		checkTick(t, c[0], c[1], c[2])
	}
}

// TestOffersOfSums has sums of which several offers can be taken.
func TestOffersOfSums(t *testing.T) {
	for _, c := range [][3]string{
		// silent ones
		{"|(~.a!a.0+~.b!b.0)|", "~", "|a!a.0|"},
		{"|(0+~.b!b.0) 0|", "~", "|0 b!b.0|"},
		{"|((a!b.0+c?x.0)+(~.a!a.0+~.b!b.0))|", "~", "|a!a.0|"},
		{"|(a!b.0+~.c!c.0)|a!b.0 b?x.0", "~", "|c!c.0|a!b.0 b?x.0"},
		// the first one from the left is taken
		{"|(~.c!c.0+a!b.0)|a?x.0", "~", "|c!c.0|a?x.0"},
		{"|(a!b.0+~.c!c.0)|a?x.0", "a!b", "|0 0|"},
		{"|((a!b.0+~.0)+c!d.0)|c?x.0", "~", "|0|c?x.0"},
		{"|((a!b.0+c!d.0)+~.0)|c?x.0", "c!d", "|0 0|"},
		{"|(a!b.b!b.0+a!c.c!c.0)|a?x.0", "a!b", "|b!b.0 0|"},
		{"|(a?x.x!b.0+a?y.y!c.0)|a!d.0", "a!d", "|0 d!b.0|"},
		{"|(a!b.0+c!d.0)|a?x.0 c?x.0", "a!b", "|0 0|c?x.0"},
		// though another one meets one that waits before
		{"|(a!b.0+c!d.0)|c?x.0 a?x.0", "a!b", "|0 0|c?x.0"},
		{"|(a?x.x!x.0+c!d.0)|c?x.0 b!a.0 a!e.0 a!f.0", "a!e", "|0 e!e.0|c?x.0 b!a.0 a!f.0"},
		{"|(b!b.0+(a!b.0+c!d.0))|c?x.0 a?x.0", "a!b", "|0 0|c?x.0"},
		{"|((b!b.0+c!d.0)+a!b.0)|a?x.0 c?x.0", "c!d", "|0 0|a?x.0"},
		// and of the first waiting one its first that meets it
		{"|a!b.0|(a?x.x!c.0+a?y.y!d.0)", "a!b", "|0 b!c.0|"},
		{"|a?x.x!x.0|(b!c.0+(a!d.b!b.0+a!e.0))", "a!d", "|b!b.0 d!d.0|"},
		{"|a?x.x!x.0|((a!e.0+b!c.0)+a!d.b!b.0)", "a!e", "|0 e!e.0|"},
		{"|(a!b.c!c.0+d!e.0)|(d?x.0+a?x.x!x.0)", "a!b", "|c!c.0 b!b.0|"},
		{"|(d!e.0+a!b.c!c.0)|(a?x.x!x.0+d?x.x!d.0)", "d!e", "|0 e!d.0|"},
		// of two that could both send or receive, the ready one does what its first offer is
		{"|(a?x.0+a!b.0)|(a?x.~.0+a!c.~.0)", "a!c", "|~.0 0|"},
		{"|(a!b.0+a?x.0)|(a!c.~.0+a?x.~.0)", "a!b", "|0 ~.0|"},
		{"|(c?x.x!x.0+a!b.0)|(a?x.0+c!d.b!b.0)", "c!d", "|b!b.0 d!d.0|"},
		{"|(a!b.0+c?x.x!x.0)|(c!d.b!b.0+a?x.x!a.0)", "a!b", "|0 b!a.0|"},
	} {
		checkTick(t, c[0], c[1], c[2])
	}
}

func TestRepeatedThreads(t *testing.T) {
	for _, c := range [][3]string{
		// one that waits stays where it is
		{"|a!b.c!c.0|*a?x.x!x.0", "a!b", "|c!c.0 b!b.0|*a?x.x!x.0"},
		{"|a!b.c!c.0 0|d!d.0 *a?x.x!x.0 e!e.0", "a!b", "|0 c!c.0 b!b.0|d!d.0 *a?x.x!x.0 e!e.0"},
		{"|(c?x.0+a!b.0)|*a?x.x!x.0", "a!b", "|0 b!b.0|*a?x.x!x.0"},
		// one that is ready becomes ready again behind both
		{"|*a?x.x!x.0|a!b.c!c.0", "a!b", "|c!c.0 b!b.0 *a?x.x!x.0|"},
		{"|*a?x.x!x.0 0|d!d.0 a!b.c!c.0 a!c.0", "a!b", "|0 c!c.0 b!b.0 *a?x.x!x.0|d!d.0 a!c.0"},
		{"|*a?x.x!x.0|(d!d.0+(a!b.0+a!c.0))", "a!b", "|0 b!b.0 *a?x.x!x.0|"},
		{"|*a?a.a!a.0|a!b.0", "a!b", "|0 b!b.0 *a?a.a!a.0|"},
		// several of them
		{"|a!b.0|*a?x.x!c.0 *a?x.x!d.0", "a!b", "|0 b!c.0|*a?x.x!c.0 *a?x.x!d.0"},
		{"|a!b.0|*a?x.x!c.0 a?x.x!d.0", "a!b", "|0 b!c.0|*a?x.x!c.0 a?x.x!d.0"},
		{"|a!b.0|a?x.x!d.0 *a?x.x!c.0", "a!b", "|0 b!d.0|*a?x.x!c.0"},
		{"|*a?x.x!c.0|*b?x.0 *a?x.0", ".", "||*b?x.0 *a?x.0 *a?x.x!c.0"},
		{"|*b?x.x!c.0|*a?x.0 b!a.0", "b!a", "|0 a!c.0 *b?x.x!c.0|*a?x.0"},
		{"|*a?x.*x?y.0|a!b.0", "a!b", "|0 *b?y.0 *a?x.*x?y.0|"},
	} {
		checkTick(t, c[0], c[1], c[2])
	}
}
