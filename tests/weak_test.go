package tests

import (
	"slices"
	"strings"
	"testing"

	"loop.example/g01175/impl"
)

const (
	inTurns = "(a!a.0&(*a?x.b!x.0&*b?x.a!x.0))"
	oneTurn = "(*a?c.b!c.0&(*b?c.a!c.0&a!a.0))"
	another = "(*a?c.b!c.0&(*b?c.a!c.0&b!a.0))"
	hidden  = "#a.(a!a.0&*a?x.a!x.0)" // without end, and without barbs
)

func TestWeakBarbs(t *testing.T) {
	for _, c := range []struct{ p, sends, receives string }{
		{"0", "", ""},
		{"~.0", "", ""},
		{"a!b.0", "a", ""},
		{"a?x.0", "", "a"},
		{"*a?x.b!x.0", "", "a"},
		// the same name both ways
		{"(a!b.0&a?x.0)", "a", "a"},
		{"(a!b.0+a?x.0)", "a", "a"},
		{"(a?x.0&(b!a.0&*b?x.0))", "b", "ab"},
		// what only others have that are reached
		{"~.a!b.0", "a", ""},
		{"~.~.~.(z!a.0&y?x.0)", "z", "y"},
		{"(~.a!b.0+~.(~.c!b.0+~.d?x.0))", "ac", "d"},
		{twoWays, "ab", "a"},
		{served, "ab", "a"},
		{"(a!b.0&a?x.x?y.y!y.0)", "a", "ab"},
		{"(a!b.b!c.0&a?x.x?y.y!y.0)", "abc", "ab"},
		{"(a!w.0&a?x.(x!x.0+z?x.0))", "aw", "az"},
		{"#x.(x!x.0&x?y.(b!c.0&d?y.0))", "b", "d"},
		{"#a.(a!b.0&a?x.x!c.0)", "b", ""},
		{"#a.(*a?x.x!a.0&(a!c.0&a!d.0))", "cd", ""},
		// behind what is not taken
		{"a!b.c!d.e?x.0", "a", ""},
		{"[a=b]c!d.0", "", ""},
		{"[a=a]c!d.0", "c", ""},
		{"(a!b.0&a?x.[x=b]c!d.0)", "ac", "a"},
		{"(a!b.0&a?x.[x=c]e!d.0)", "a", "a"},
		{"(~.0+a!b.~.c!c.0)", "a", ""},
		// names bound at the front
		{"#x.x!a.0", "", ""},
		{"#a.#b.(a!b.0&b?x.0)", "", ""},
		{"(#x.a!x.x!b.0&a?y.y?z.0)", "a", "a"},
		{"(#x.a!x.0&a?y.y!y.0)", "a", "a"},
		{"~.#a.(a!b.0&a?x.0)", "", ""},
		{"(#a.a?x.0&a!b.0)", "a", ""},
		{"(a?x.0&#a.(a!b.0&b!a.0))", "b", "a"},
		// without end
		{endless, "a", "a"},
		{inTurns, "ab", "ab"},
		{hidden, "", ""},
		{"(" + endless + "&a?x.(c!x.0&d?y.0))", "ac", "ad"},
		// names in order, and many of them
		{"(z!a.0&(y?x.0&(m!a.0&(b?x.0&a!a.0))))", "amz", "by"},
		{"(z!a.0+~.(y!a.0+~.(c!a.0+~.b!a.0)))", "bcyz", ""},
		{letters26, "a", ""},
	} {
		for range 2 {
			if s, ok := impl.WeakSends(c.p); s != c.sends || !ok {
				t.Error("sends", c.p, s, ok)
			}
			if s, ok := impl.WeakReceives(c.p); s != c.receives || !ok {
				t.Error("receives", c.p, s, ok)
			}
		}
	}
	for _, name := range alphabet {
		a := string(name)
		if s, ok := impl.WeakSends("~." + a + "!" + a + ".0"); s != a || !ok {
			t.Error("sends over", a, s, ok)
		}
		if s, ok := impl.WeakReceives("~." + a + "?" + a + ".0"); s != a || !ok {
			t.Error("receives over", a, s, ok)
		}
	}
}

// checkVerdict checks all that is told of a process and a test: 2 if it must pass, 1 if it may but need not, 0 if it may not, and the run without passing. Side by side both do the same the other way round.
func checkVerdict(t *testing.T, p, test string, verdict int, run string) {
	t.Helper()
	for _, c := range [][2]string{{p, test}, {test, p}} {
		if is, ok := impl.MayPass(c[0], c[1]); is != (verdict > 0) || !ok {
			t.Error("may pass:", c, is, ok)
		}
		if is, ok := impl.MustPass(c[0], c[1]); is != (verdict == 2) || !ok {
			t.Error("must pass:", c, is, ok)
		}
		for range 2 {
			list, ok := impl.PassedTests(c[0], []string{c[1]})
			if !slices.Equal(list, []int{verdict}) || !ok {
				t.Error("passed:", c, list, ok)
			} else {
				list[0] = -1
			}
		}
		for range 2 {
			list, ok := impl.RunWithoutPass(c[0], c[1])
			if strings.Join(list, " ") != run || ok != (run != "") {
				t.Error("run:", c, list, ok)
			}
			for i := range list {
				list[i] = "changed"
			}
		}
	}
}

func TestTests(t *testing.T) {
	loop := "(*a?b.a!b.0&a!a.0)" // the normal form of endless
	waits := "(*a?b.a!b.0&(a!a.0&a?b.w!b.0))"
	asks := "(*a?c.b!c.0&(*b?c.a!c.0&"
	for _, c := range []struct {
		p, test string
		verdict int
		run     string
	}{
		// the example of the document
		{"(~.a!b.0+~.c!b.0)", "a?x.w!x.0", 1, "((~.a!b.0+~.c!b.0)&a?d.w!d.0) (a?d.w!d.0&c!b.0)"},
		{"a!b.0", "a?x.w!x.0", 2, ""},
		// passed at once, by the test or by the process itself
		{"0", "w!a.0", 2, ""},
		{"(~.0+~.a!b.0)", "w!a.0", 2, ""},
		{"w!a.0", "w?x.0", 2, ""},
		{"(w!a.0+~.0)", "0", 2, ""},
		{"(w!a.~.b!b.0&(w?x.0&c?x.0))", "0", 2, ""},
		{endless, "w!b.0", 2, ""},
		{"(a!b.0&#x.(x?y.0&w!x.0))", "a?x.0", 2, ""},
		// passed only behind steps
		{"0", "~.w!a.0", 2, ""},
		{"~.0", "~.w!a.0", 2, ""},
		{"~.(w!a.0+~.0)", "0", 2, ""},
		{"(~.w!a.0+~.~.~.w!b.0)", "0", 2, ""},
		{"(~.w!a.~.0&~.w!a.0)", "~.0", 2, ""},
		{"a!b.b!c.0", "a?x.x?y.~.w!y.0", 2, ""},
		{"a!w.0", "a?x.x!x.0", 2, ""},
		{"(a!b.0+c!b.0)", "(a?x.w!x.0+c?x.w!x.0)", 2, ""},
		{"(~.a!b.0+~.c!b.0)", "(a?x.w!x.0+c?x.w!x.0)", 2, ""},
		{hidden, "w!b.0", 2, ""},
		// passed by some runs alone
		{"(~.w!a.0+~.0)", "0", 1, "(~.0+~.w!a.0) 0"},
		{"(a!b.0&a?x.0)", "a?x.w!x.0", 1, "(a!b.0&(a?c.0&a?c.w!c.0)) a?b.w!b.0"},
		{"(a!b.0+~.0)", "a?x.w!x.0", 1, "((a!b.0+~.0)&a?c.w!c.0) a?b.w!b.0"},
		{"(a!b.0&a!c.0)", "a?x.[x=b]w!x.0", 1, "(a!b.0&(a!c.0&a?d.[b=d]w!d.0)) ([b=c]w!c.0&a!b.0)"},
		// not passed
		{"0", "0", 0, "0"},
		{"~.0", "0", 0, "~.0 0"},
		{"a!b.0", "c?x.w!x.0", 0, "(a!b.0&c?d.w!d.0)"},
		{"a!b.0", "a?x.x!x.0", 0, "(a!b.0&a?c.c!c.0) b!b.0"},
		{"0", "w?x.0", 0, "w?a.0"},
		{"0", "*w?x.w!x.0", 0, "*w?a.w!a.0"},
		{"0", "a!w.0", 0, "a!w.0"},
		{"0", "a?x.w!x.0", 0, "a?b.w!b.0"},
		{"0", "[a=b]w!a.0", 0, "[a=b]w!a.0"},
		{"0", "#w.w!a.0", 0, "#b.b!a.0"},
		{"#w.w!a.0", "w?x.w!x.0", 0, "#b.(b!a.0&w?c.w!c.0)"},
		{"(#w.a!w.0&a?x.x!x.0)", "0", 0, "#b.(a!b.0&a?c.c!c.0) #a.a!a.0"},
		{twoWays, "0", 0, "((a?d.d!c.0+~.0)&a!b.0) a!b.0"},
		{served, "0", 0, "(*a?e.b!e.0&(a!c.0&a!d.0)) (*a?e.b!e.0&(a!c.0&b!d.0)) " + allDone},
		// the first of the reductions from which there is still a run
		{"(~.~.w!a.0+~.~.x!x.0)", "0", 1, "(~.~.w!a.0+~.~.x!x.0) ~.x!x.0 x!x.0"},
		{"(~.~.b!b.0+~.~.a!a.0)", "0", 0, "(~.~.a!a.0+~.~.b!b.0) ~.a!a.0 a!a.0"},
		{"(~.~.a!a.0+~.b!b.0)", "0", 0, "(~.b!b.0+~.~.a!a.0) b!b.0"},
		{"(~.~.~.w!a.0+~.~.(~.w!b.0+~.b!b.0))", "0", 1, "(~.~.(~.b!b.0+~.w!b.0)+~.~.~.w!a.0) ~.(~.b!b.0+~.w!b.0) (~.b!b.0+~.w!b.0) b!b.0"},
		{"(~.(~.w!a.0+~.~.w!b.0)+~.~.(~.w!b.0+~.~.b!b.0))", "0", 1, "(~.(~.w!a.0+~.~.w!b.0)+~.~.(~.w!b.0+~.~.b!b.0)) ~.(~.w!b.0+~.~.b!b.0) (~.w!b.0+~.~.b!b.0) ~.b!b.0 b!b.0"},
		// runs without end
		{endless, "0", 0, loop + " " + loop},
		{hidden, "w?x.0", 0, "#a.(*a?b.a!b.0&(a!a.0&w?b.0)) #a.(*a?b.a!b.0&(a!a.0&w?b.0))"},
		{endless, "~.w!b.0", 1, "(*a?c.a!c.0&(a!a.0&~.w!b.0)) (*a?c.a!c.0&(a!a.0&~.w!b.0))"},
		{endless, "a?x.w!x.0", 1, waits + " " + waits},
		{inTurns, "0", 0, oneTurn + " " + another + " " + oneTurn},
		{inTurns, "b?x.w!x.0", 1, asks + "(a!a.0&b?c.w!c.0))) " + asks + "(b!a.0&b?c.w!c.0))) " + asks + "(a!a.0&b?c.w!c.0)))"},
		{"~.~." + inTurns, "0", 0, "~.~." + oneTurn + " ~." + oneTurn + " " + oneTurn + " " + another + " " + oneTurn},
		{"~." + inTurns, "w?x.0", 0, "(w?c.0&~." + oneTurn + ") " + asks + "(a!a.0&w?c.0))) " + asks + "(b!a.0&w?c.0))) " + asks + "(a!a.0&w?c.0)))"},
		// some have an end
		{endless, "a?x.0", 0, "(*a?b.a!b.0&(a!a.0&a?b.0)) (*a?b.a!b.0&(a!a.0&a?b.0))"},
		{endless, "a?x.#y.c!y.0", 0, "(*a?b.a!b.0&(a!a.0&a?b.#d.c!d.0)) #b.(*a?d.a!d.0&c!b.0)"},
		{"(~." + endless + "+~.0)", "0", 0, "(~.(*a?b.a!b.0&a!a.0)+~.0) " + loop + " " + loop},
		{"(~." + endless + "+~.#x.x!a.0)", "0", 0, "(~.#b.b!a.0+~.(*a?b.a!b.0&a!a.0)) #b.b!a.0"},
	} {
		checkVerdict(t, c.p, c.test, c.verdict, c.run)
	}
}

// checkPassed checks what is told of a list of tests, one digit for each.
func checkPassed(t *testing.T, p, want string, tests ...string) {
	t.Helper()
	room := append(slices.Clone(tests), "behind", "them")
	before := slices.Clone(room)
	for range 2 {
		list, ok := impl.PassedTests(p, room[:len(tests)])
		told := ""
		for i, n := range list {
			told += string(rune('0' + n))
			list[i] = -1
		}
		if told != want || ok != (len(want) == len(tests)) {
			t.Errorf("%.40q %.80q: %s %v, not %s", p, tests, told, ok, want)
		}
		if !slices.Equal(room, before) {
			t.Errorf("tests are changed: %.80q", room)
		}
	}
}

func TestListsOfTests(t *testing.T) {
	may, p := "(~.w!b.0+~.0)", "(~.a!b.0+~.c!b.0)"
	for _, c := range []struct {
		p, tests, want string
	}{
		{"0", "", ""},
		{p, "a?x.w!x.0", "1"},
		{"a!b.0", "a?x.w!x.0", "2"},
		{"0", "0 w!a.0 " + may, "021"},
		{p, "w!a.0 0 (a?x.w!x.0+c?x.w!x.0) a?x.w!x.0 c?x.w!x.0 b?x.w!x.0", "202110"},
		{"0", strings.Repeat(may+" ", impl.MaxTests), "111111"},
		{endless, "0 ~.w!b.0 w!b.0 a?x.w!x.0 0 w!b.0", "012102"},
		{"w!a.0", "0 ~.0 w?x.0", "222"},
		// more than MaxTests
		{"0", strings.Repeat("0 ", impl.MaxTests+1), ""},
		{p, strings.Repeat("w!a.0 ", impl.MaxTests+1), ""},
		{"0", strings.Repeat("0 ", 100), ""},
	} {
		checkPassed(t, c.p, c.want, strings.Fields(c.tests)...)
	}
	if list, ok := impl.PassedTests("0", nil); len(list) != 0 || !ok {
		t.Error("no tests:", list, ok)
	}
	// nothing has to be reached
	checkPassed(t, growing, "")
	// one of them is none, is not simple, or fails with the process
	for _, bad := range slices.Concat(noProcesses(), notSimple(), beyondLimits(), []string{growing, "#a.#b.#c.a!b.c!c.0"}) {
		for i := range impl.MaxTests {
			tests := slices.Repeat([]string{"w!a.0"}, impl.MaxTests)
			tests[i] = bad
			checkPassed(t, "#a.#b.#c.a!b.c!c.0", "", tests...)
		}
	}
	for _, bad := range slices.Concat(noProcesses(), notSimple()) {
		if list, ok := impl.PassedTests(bad, nil); len(list) != 0 || ok {
			t.Errorf("%.40q: %v %v", bad, list, ok)
		}
	}
}

// checkApart checks all that tells two processes apart: the round, -1 if they are weakly alike, and the first barb, "" if there is none.
func checkApart(t *testing.T, p, q string, depth int, barb string) {
	t.Helper()
	for _, c := range [][2]string{{p, q}, {q, p}, {"(0&" + p + ")", q}} {
		if is, ok := impl.AreWeaklyAlike(c[0], c[1]); is != (depth < 0) || !ok {
			t.Error("alike:", c, is, ok)
		}
		if n, ok := impl.WeakDepth(c[0], c[1]); n != max(depth, 0) || ok != (depth >= 0) {
			t.Error("depth:", c, n, ok)
		}
		if s, ok := impl.FirstBarb(c[0], c[1]); s != barb || ok != (barb != "") {
			t.Error("first barb:", c, s, ok)
		}
	}
}

func TestWeaklyAlike(t *testing.T) {
	for _, c := range [][2]string{
		{"0", "0"},
		{"~.a!b.0", "a!b.0"}, // the example of the document
		{"(a!b.0&0)", "#x.(0&a!b.0)"},
		// one makes more silent steps, perhaps without end
		{"0", "~.0"},
		{"~.0", "~.~.~.~.0"},
		{"0", hidden},
		{"(" + hidden + "&b!a.0)", "b!c.0"},
		{endless, "(a!a.0&*a?x.~.a!x.0)"},
		{endless, "(a!a.0&(*a?x.a!x.0&*a?x.~.~.a!x.0))"},
		{"(~.a!b.0+~.~.a!b.0)", "a!b.0"},
		{"(a!b.0+~.a!b.0)", "a!b.0"},
		{"(a!b.0+~.(a!b.0+~.~.a!b.0))", "a!b.0"},
		{"(a?x.0&~.b!b.0)", "(~.a?x.0&b!b.0)"},
		{"(~.a!b.0+~.0)", "(~.~.a!b.0+~.(~.0+~.0))"},
		{"~.(~.0+~.a!b.0)", "(~.0+~.a!b.0)"},
		{"#x.(x!x.0&(x?y.a!y.0+x?y.0))", "(~.a!b.0+~.0)"},
		{"#x.(x!x.0&x?y.a!a.0)", "a!a.0"},
		// what is sent, and what comes behind, does not count
		{"a!b.0", "a!c.0"},
		{"a!b.0", "a!b.a!b.0"},
		{"a!b.0", "a!b.c!c.~.0"},
		{"a?x.0", "a?x.x!x.0"},
		{"a?x.0", "*a?x.b!x.0"},
		{"(a!b.0+a!c.0)", "a!b.0"},
		{"(a!b.0+c!b.0)", "(a!b.0&c!b.0)"},
		{"(a!b.0&a!b.0)", "a!b.0"},
		{"[a=b]~.0", "0"},
		{"#x.x!a.0", "0"},
		{"#x.(x!a.0&y?x.0)", "y?z.0"},
	} {
		checkApart(t, c[0], c[1], -1, "")
	}
}

func TestToldApartByBarbs(t *testing.T) {
	for _, c := range [][3]string{
		{"a!b.0", "0", "!a"},
		{"a?x.0", "0", "?a"},
		{"*z?x.0", "0", "?z"},
		{"~.~.z!a.0", "0", "!z"},
		{"a!b.0", "b!b.0", "!a"},
		{"a?x.0", "b?x.0", "?a"},
		{"(b!b.0+a!b.0)", "b!b.0", "!a"},
		{"(b!b.0+c!b.0)", "b!b.0", "!c"},
		{"(~.c!a.0+~.d!a.0)", "c!a.0", "!d"},
		// each kind for itself, those that send first
		{"a!b.0", "a?x.0", "!a"},
		{"(a!b.0&a?x.0)", "0", "!a"},
		{"(a!b.0&a?x.0)", "a?x.0", "!a"},
		{"(a!b.0&a?x.0)", "(a!b.0&~.0)", "?a"},
		{"(a!b.0&b?x.0)", "(a?x.0&b!c.0)", "!a"},
		// names in order, of whichever kind
		{"a?x.0", "b!c.0", "?a"},
		{"(a?x.0+b!c.0)", "0", "?a"},
		{"(z!a.0&(y?x.0&x!a.0))", "x!b.0", "?y"},
		{"(c!a.0&d?x.0)", "(c!b.0&e!b.0)", "?d"},
		{"(c!a.0&d?x.0)", "(c?x.0&b?x.0)", "?b"},
		// weak ones that only what is reached has
		{twoWays, "(a!b.0&a?x.0)", "!b"},
		{"(a!b.0&a?x.x?y.0)", "(a!b.0&a?x.0)", "?b"},
		{endless, hidden, "!a"},
		{inTurns, endless, "!b"},
		{"~." + served, "(a!b.0&a?x.0)", "!b"},
		{"(~.a!b.0+~.(~.c!b.0+~.d?x.0))", "(~.a!b.0+~.~.c!b.0)", "?d"},
		// names bound at the front are none
		{"#a.(a!b.0&b!a.0)", "0", "!b"},
		{"#a.(a!b.0&c?x.0)", "#x.(x!b.0&d?y.0)", "?c"},
	} {
		checkApart(t, c[0], c[1], 0, c[2])
	}
}

func TestToldApartInLaterRounds(t *testing.T) {
	may, can := "(~.0+~.a!b.0)", "(a!b.0+~.0)"
	for _, c := range []struct {
		p, q  string
		round int
	}{
		{can, "a!b.0", 1}, // the example of the document
		{may, "a!b.0", 1},
		{"(a?x.0+~.~.0)", "a?x.0", 1},
		{"(~.a!b.0+~.c!b.0)", "(a!b.0+~.c!b.0)", 1},
		{"(~.a!b.0+~.c!b.0)", "(a!b.0+c!b.0)", 1},
		{"(a!b.0+~.0)", "(a!b.0&*a?x.0)", 0},
		{"#x.(x!x.0&(x?y.0+x?y.a!a.0))", "a!a.0", 1},
		{endless, "(" + endless + "&a?x.0)", 1},
		{"(" + endless + "&a?x.0)", "(" + endless + "&(a?x.0&a?y.0))", -1},
		{"(a!b.0&(a?x.0&" + hidden + "))", "(a!b.0&a?x.0)", -1},
		// the one can come to a!b.0, the other one only to 0 or itself
		{may, can, 2},
		{may, "(a!c.0+~.~.~.0)", 2},
		{"(~.0+~.a?b.0)", "(a?b.0+~.0)", 2},
		{"~." + may, "a!b.0", 2},
		{"~." + can, "a!b.0", 2},
		{"~.~." + can, "a!b.0", 3},
		{"~." + may, can, 3},
		{"~.~." + may, can, 4},
		{"~.~.~." + may, can, 5},
		{may, "~." + can, 3},
		{"~." + may, "~." + can, 4},
		{"~." + may, "~.~." + can, 5},
		{"~.~." + may, "~." + can, 5},
		{"~.~." + may, "~.~." + can, 6},
		{strings.Repeat("~.", 40) + may, can, 42},
		{"~.~.(a!b.0&a?x.0)", "(a!b.0+a?x.0)", 3},
		{"~.(" + can + "&" + hidden + ")", "(~.~.0+~.~." + can + ")", -1},
	} {
		barb := ""
		if c.round == 0 {
			barb = "?a"
		}
		checkApart(t, c.p, c.q, c.round, barb)
	}
}
