package tests

import (
	"runtime"
	"slices"
	"strings"
	"testing"
	"time"

	"loop.example/g01175/impl"
)

// noMachines has machines that are none.
func noMachines() []impl.Machine {
	var out []impl.Machine
	for _, own := range []string{
		"aa", "aba", "abb", "zaz", alphabet + "a", alphabet + "z", "A", "aB", "Ba", "1", " ", "a ", " a", "a b", "a,b", "é", "aé", "éa", "\xff", "a\xff", "ｂ", "\x00", "a\x00", "`", "{", "#", "~",
		strings.Repeat("a", 1000000), strings.Repeat("é", 1000000),
	} {
		out = append(out, impl.Machine{Own: own}, impl.Machine{Own: own, Ready: []string{"0"}}, impl.Machine{Own: own, Waiting: []string{"a!b.0"}})
	}
	for _, p := range slices.Concat(noProcesses(), notSimple()) {
		out = append(out, impl.Machine{Ready: []string{p}}, impl.Machine{Waiting: []string{p}})
		out = append(out, impl.Machine{Ready: []string{"0", p, "0"}}, impl.Machine{Ready: []string{"0"}, Waiting: []string{"a!b.0", p}})
	}
	for _, waiting := range []string{
		// kinds that do not wait
		"0", "(0&0)", "(a!b.0&0)", "(a!b.0&c!d.0)", "#x.a!x.0", "#x.0", "~.0", "~.a!b.0",
		// sums with a silent part
		"(~.0+0)", "(a!b.0+~.0)", "(~.0+a!b.0)", "((a!b.0+~.0)+c!d.0)", "((~.0+a!b.0)+c!d.0)", "(c!d.0+(a!b.0+~.0))", "(c!d.0+(~.c!d.0+0))", "(0+(0+(0+~.0)))",
		// matches that have a name twice
		"[a=a]0", "[a=a]a!b.0", "[z=z][a=b]0", "[m=m]#x.0",
		// two that can hand over a name
		"a!b.0 a?x.0", "a?x.0 a!b.0", "a!a.0 a?a.0", "z!b.0 z?x.0", "a!b.0 *a?x.0", "*a?x.0 a!b.0",
		"a!b.0 (a?x.0+b?x.0)", "a!b.0 (b?x.0+a?x.0)", "(0+(0+a?x.0)) a!b.0", "(c!d.0+a!b.0) ((b?x.0+c!b.0)+(d!e.0+a?x.0))", "(a!b.0+c?x.0) (a!b.0+c!d.0)",
		"(a!b.0+0) *a?x.0", "*a?x.0 (0+(a!b.0+0))", "(a!b.0+a?x.0) (a!c.0+a?x.0)", "(a!b.0+a?x.0) a!b.0", "*a?x.0 (a!b.0+a?x.0)",
		// with others before, between and behind
		"c!d.0 a!b.0 a?x.0", "a!b.0 c!d.0 a?x.0", "a!b.0 a?x.0 c!d.0", "a!b.0 b!c.0 c!d.0 d!e.0 e!f.0 f!g.0 g!h.0 h!a.0 a?x.0",
		"a!b.0 a!b.0 a!b.0 (a?x.0+b!a.0)", "[a=b]0 *a?x.0 [a=b]0 a!b.0 [a=b]0",
		"a!b.0 0", "0 a!b.0", "a!b.0 [a=a]0 c?x.0", "c?x.0 ~.0", "c?x.0 (c?x.0+~.0)",
	} {
		out = append(out, machineIn("||"+waiting), machineIn("xyz|0 a!b.0|"+waiting))
	}
	return out
}

// checkNoMachine checks that all calls for a machine fail.
func checkNoMachine(t *testing.T, m impl.Machine) {
	t.Helper()
	if impl.IsMachine(m) {
		t.Errorf("a machine: %.200q", m)
	}
	if after, event, ok := impl.TickMachine(m); machineTold(after) != "||" || event != "" || ok {
		t.Errorf("%.200q: tick: %q %q %v", m, after, event, ok)
	}
	if p, ok := impl.ProcessOfMachine(m); p != "" || ok {
		t.Errorf("%.200q: process: %q %v", m, p, ok)
	}
	if is, ok := impl.IsAtRest(m); is || ok {
		t.Errorf("%.200q: at rest: %v %v", m, is, ok)
	}
	for _, name := range []string{"a", "b", ""} {
		if sends, receives, ok := impl.WaitingOver(m, name); sends != 0 || receives != 0 || ok {
			t.Errorf("%.200q: waiting over: %v %v %v", m, sends, receives, ok)
		}
	}
}

func TestNoMachines(t *testing.T) {
	for _, m := range noMachines() {
		checkNoMachine(t, m)
	}
}

func TestMachinesAreTold(t *testing.T) {
	for _, text := range []string{
		"||", "a||", "z||", "cab||", alphabet + "||", alphabet[13:] + alphabet[:13] + "||", // without threads
		// any simple process may be ready, whatever is ready or waits besides
		"|0|", "|0 0 0|", "|a!b.0 a?x.0 ~.0 (0&0) #x.0 [a=a]0 [a=b]0 *a?x.0 (~.0+0)|", "|" + letters26 + "|", "|a?x.0|a!b.0", "a|#a.0 ~.0 a!b.0|a?x.0",
		// all kinds that wait
		"||a!b.0", "||a?x.0", "||(a!b.0+0)", "||(0+0)", "||*a?x.0", "||[a=b]0", "||[a=b][c=c]~.0", "xa||[b=a](0&0)", "||a!b.0 a!b.0 a!b.0",
		// silent steps and other kinds behind what waits
		"||a!b.~.0", "||(a!b.~.0+c?x.~.0)", "||*a?x.~.0", "||[a=b]~.0", "||a!b.[c=c]0", "||a?x.(0&0) b!a.#x.0",
		// that cannot hand over a name: one alone, over other names, behind others
		"||(a!b.0+a?x.0)", "||(a!b.0+(c!d.0+(a?x.0+c?x.0)))", "||a!b.0 b?x.0", "||a!b.0 c?a.0", "||(a!b.0+c!d.0) (b?x.0+d?x.0)", "||a!b.a?x.0 b?x.a!x.0",
		"||[a=b]a!b.0 a?x.0", "||[a=b]a!b.0 [a=b]a?x.0", "||*a?x.b!x.0 b?x.0", "||*a?x.a!x.0 *a?x.0 (a?x.0+b!a.0)",
		"||b!c.0 *a?x.b?x.0 (c?x.0+0)",
	} {
		m := machineIn(text)
		if !impl.IsMachine(m) {
			t.Error("no machine:", text)
		}
		if is, ok := impl.IsAtRest(m); is != (len(m.Ready) == 0) || !ok {
			t.Error("at rest:", text, is, ok)
		}
		m.Own = ""
		slices.Reverse(m.Ready)
		slices.Reverse(m.Waiting)
		if !impl.IsMachine(m) {
			t.Error("no machine if reversed:", text)
		}
	}
}

// threads returns n of the same.
func threads(n int, p string) []string { return strings.Fields(strings.Repeat(p+" ", n)) }

func TestMaxThreads(t *testing.T) {
	for ready := range 44 {
		for waiting := range 44 {
			m := impl.Machine{Ready: threads(ready, "0"), Waiting: threads(waiting, "a!b.0")}
			if ready+waiting > impl.MaxThreads {
				checkNoMachine(t, m)
				continue
			}
			if !impl.IsMachine(m) {
				t.Error("no machine:", ready, waiting)
			}
		}
	}
	checkNoMachine(t, impl.Machine{Ready: threads(1000000, "0")})
	checkNoMachine(t, impl.Machine{Waiting: threads(1000000, "a!b.0")})
	// ticks with one thread besides, with which there are MaxThreads behind them, or one more
	for _, c := range []struct {
		ready, waiting, event string
		more                  int
	}{
		{"(0&0)", "", "&", 1},
		{"a!b.0", "*a?x.0", "a!b", 1},
		{"*a?x.0", "a!b.0", "a!b", 1},
		{"*a?x.0", "(a!b.0+0)", "a!b", 1},
		{"(a!b.0+~.0)", "*a?x.0", "a!b", 1},
		{"a!b.0", "a?x.0", "a!b", 0},
		{"a?x.0", "a!b.0", "a!b", 0},
		{"#x.0", "", "#c", 0},
		{"~.0", "", "~", 0},
		{"(0+~.0)", "", "~", 0},
		{"[a=a]0", "", "=", 0},
		{"[a=b]0", "", ".", 0},
		{"a!b.0", "", ".", 0},
		{"*a?x.0", "", ".", 0},
		{"0", "", "0", -1},
	} {
		n := impl.MaxThreads - 1 - len(strings.Fields(c.waiting))
		for _, left := range []int{n - 1, n} {
			for _, ready := range []int{0, left / 2, left} {
				m := impl.Machine{Ready: append([]string{c.ready}, threads(ready, "b!a.0")...)}
				m.Waiting = append(threads(left-ready, "b!a.0"), strings.Fields(c.waiting)...)
				after, event, ok := impl.TickMachine(m)
				count := len(after.Ready) + len(after.Waiting)
				if !impl.IsMachine(m) || ok != (left+c.more <= n) || ok && (event != c.event || count != len(m.Ready)+len(m.Waiting)+c.more) {
					t.Error(m, "becomes", after, event, ok)
				}
				if !ok && (event != "" || machineTold(after) != "||") {
					t.Error(m, "fails with", after, event)
				}
			}
		}
	}
}

func TestWaitingOver(t *testing.T) {
	for _, c := range []struct{ machine, over string }{
		{"||", ""},
		{"||a!b.0", "a10"},
		{"||a?b.0", "a01"},
		{"||*a?b.0", "a01"},
		{"||[a=b]a!b.0", ""},
		{"||a!b.b!a.c?x.0", "a10"},
		{"||a!b.0 a!c.0 b!a.0", "a20 b10"},
		{"||a?x.0 *a?x.0 b?x.0", "a02 b01"},
		{"||(a!b.0+c?x.0)", "a10 c01"},
		// a thread counts once, for both kinds if it offers both
		{"||(a!b.0+a!c.0)", "a10"},
		{"||(a?x.0+(0+a?y.b!a.0))", "a01"},
		{"||(a!b.0+a?x.0)", "a11"},
		{"||((a!b.0+a?x.0)+(a!c.0+(a?x.0+b!b.0)))", "a11 b10"},
		{"||(a!b.0+c!d.0) (c!a.0+0) *b?x.0 (b?x.0+e?x.0)", "a10 c20 b02 e01"},
		// what is ready does not count
		{"|a!b.0 a?x.0 *a?x.0 (a!b.0+0)|", ""},
		{"c|a?x.0|a!b.0 z!z.0", "a10 z10"},
		{"zxy||z!x.0 x!y.0 *y?x.0", "z10 x10 y01"},
	} {
		for _, name := range alphabet {
			sends, receives, ok := impl.WaitingOver(machineIn(c.machine), string(name))
			want := string(name) + "00"
			if i := strings.Index(c.over, string(name)); i >= 0 {
				want = c.over[i : i+3]
			}
			if sends != int(want[1]-'0') || receives != int(want[2]-'0') || !ok {
				t.Error(c.machine, want, sends, receives, ok)
			}
		}
		for _, name := range noNames() {
			if sends, receives, ok := impl.WaitingOver(machineIn(c.machine), name); sends != 0 || receives != 0 || ok {
				t.Errorf("%s %.40q: %v %v %v", c.machine, name, sends, receives, ok)
			}
		}
	}
	for n := range impl.MaxThreads + 1 {
		m := impl.Machine{Waiting: append(threads(n, "(a!b.0+b?x.0)"), threads(impl.MaxThreads-n, "*b?x.0")...)}
		if sends, receives, ok := impl.WaitingOver(m, "a"); sends != n || receives != 0 || !ok {
			t.Error(n, sends, receives, ok)
		}
		if sends, receives, ok := impl.WaitingOver(m, "b"); sends != 0 || receives != impl.MaxThreads || !ok {
			t.Error(n, sends, receives, ok)
		}
	}
}

func TestProcessesOfMachines(t *testing.T) {
	for _, c := range [][2]string{
		{"|(a!b.0&a?x.x!a.0)|", "(a!b.0&a?c.c!a.0)"}, // the example, at first and at rest
		{"||b!a.0", "b!a.0"},
		{"||", "0"},
		{"cab||", "0"},
		{"|0|", "0"},
		{"|0 0 #x.0|(0+0)", "0"},
		{"||a!b.0", "a!b.0"},
		{"a|a!b.0|", "#a.a!b.0"},
		{"b||a!b.0", "#b.a!b.0"},
		{"ab||a!b.0", "#a.#b.a!b.0"},
		{"ba||a!b.0", "#a.#b.a!b.0"},
		{"c||a!b.0", "a!b.0"},
		{"|b?x.0 a!b.0|", "(a!b.0&b?c.0)"},
		{"|b?x.0|a!b.0", "(a!b.0&b?c.0)"},
		{"|a!b.0|b?x.0", "(a!b.0&b?c.0)"},
		{"x|b!x.0 a!x.0|x!b.0 *a?x.x!b.0", "#c.(*a?d.d!b.0&(a!c.0&(b!c.0&c!b.0)))"},
		{"|#x.a!x.0 #x.a!x.0|", "#b.#c.(a!b.0&a!c.0)"},
		{"x|#y.x!y.0 [x=z]0 [x=x]0 ~.0|[z=x]x!x.0", "#a.#b.([a=z]a!a.0&(a!b.0&~.0))"},
		{"a|#a.a!b.0|a!b.0", "#a.#c.(a!b.0&c!b.0)"},
	} {
		if p, ok := impl.ProcessOfMachine(machineIn(c[0])); p != c[1] || !ok {
			t.Errorf("%s: %q %v, not %q", c[0], p, ok, c[1])
		}
	}
}

// TestLimitsOfProcesses8 meets the limits of normal forms exactly and exceeds them.
func TestLimitsOfProcesses8(t *testing.T) {
	const two = "a!b.c!d.0"
	for _, c := range []struct {
		machine string
		ok      bool
	}{
		// MaxFront: names that were made and are used, and those of what is ready
		{"abcde||a!b.c!d.e!e.0", true},
		{"abcdef||a!b.c!d.e!f.0", false},
		{"abcdefghijklm||a!b.c!d.e!e.0", true},
		{"abcdefghijklm||a!b.c!d.e!x.f!x.0", false},
		{"abcd|#x.x!x.0|" + two, true},
		{"abcde|#x.x!e.0|" + two, false},
		{"abcd|#x.x!x.0 #x.0|" + two, true},
		{"abcd|#x.x!x.0 #x.~.0 #x.x?y.0|" + two, false},
		{"|#a.#b.a!b.0 #a.#b.a!b.0 #a.a!b.0|", true},
		{"|#a.#b.a!b.0 #a.#b.a!b.0 #a.#b.a!b.0|", false},
		{"x|(#a.#b.a!b.0&#a.#b.a!b.0)|a!x.0", true},
		{"xy|(#a.#b.a!b.0&#a.#b.a!b.0)|y!x.0", false},
		{"|~.#a.#b.#c.#d.#e." + two[:8] + "e!e.0|", true},
		{"|~.#a.#b.#c.#d.#e.#f." + two[:8] + "e!f.0|", false},
		// MaxOwn
		{"abcde|a!b.c!d.e!e.#x.#y.#z.x!y.z!z.0|", true},
		{"abcde|a!b.c!d.e!e.#x.#y.#z.#u.x!y.z!u.0|", false},
		{"abcde|a!b.c!d.e!e.0 ~.#x.x!x.0 ~.#x.x!x.0|x!x.#x.x!x.0", true},
		{"abcde|a!b.c!d.e!e.0 ~.#x.x!x.0 ~.#x.x!x.0|x!x.#x.x!x.0 y!x.#x.x!x.0", false},
		{"abcdexyz|a!b.c!d.e!e.#x.#y.#z.x!y.z!z.0|", true},
		{"abcde||a!b.c!d.e!e.0 *x?y.#x.x!x.#x.x!y.#x.x!x.0", true},
		{"abcde||a!b.c!d.e!e.0 *x?y.#x.x!x.#x.x!y.#x.x!x.#x.x!x.0", false},
		// letters: those that are free, and those that are bound within each other
		{"||" + letters25 + " b?x.0", true},
		{"||" + letters26 + " b?x.0", false},
		{"z||" + letters26 + " b?x.0", false},
		{"z||" + letters26, true},
		{"||" + letters24 + " b?x.a?y.0", true},
		{"||" + letters25 + " b?x.a?y.0", false},
		{"y||" + letters25 + " b?x.0", true},
		{"yz||" + letters25 + " b?x.0", true},
		{"yz||" + letters25 + " z?x.0", false},
		{"y||" + letters25 + " b?x.a?y.0", false},
		{"|#y." + letters25 + "|b?x.0", true},
		{"|#y." + letters25 + "|b?x.a?y.0", false},
		{"|" + strings.Repeat("a?x.", 25) + "0|", true},
		{"|" + strings.Repeat("a?x.", 26) + "0|", false},
		{"a|" + strings.Repeat("a?x.", 25) + "0|", true},
		{"a|" + strings.Repeat("a?x.", 26) + "0|", false},
	} {
		p, ok := impl.ProcessOfMachine(machineIn(c.machine))
		if ok != c.ok || ok != (p != "") {
			t.Errorf("%s: %q %v", c.machine, p, ok)
		}
		if !impl.IsMachine(machineIn(c.machine)) {
			t.Error("no machine:", c.machine)
		}
	}
}

// TestLargeMachines has processes of MaxNodes signs, one more, and many more.
func TestLargeMachines(t *testing.T) {
	met := 0
	for n := 1; n <= impl.MaxThreads; n++ {
		for signs := 1; signs <= 58; signs++ {
			for more := range 2 {
				m := impl.Machine{Own: "abc", Ready: threads(n/2, strings.Repeat("~.", signs)+"0"), Waiting: threads(n-n/2, "x!x."+strings.Repeat("~.", signs-1)+"0")}
				m.Waiting[0] = strings.Repeat("x!x.", more) + m.Waiting[0]
				want := n*(signs+1) + n - 1 + more
				p, ok := impl.ProcessOfMachine(m)
				if size, _ := impl.SizeOf(p); ok != (want <= impl.MaxNodes) || ok && size != want || !ok && p != "" {
					t.Fatal(n, signs, p, ok)
				}
				if want == impl.MaxNodes {
					met++
				}
			}
		}
	}
	if met < 3 {
		t.Error("few meet the limit:", met)
	}
	// many signs that bind, and many of which nothing is left
	for _, p := range []string{strings.Repeat("a?x.", 20) + "0", "#x." + strings.Repeat("x?y.", 58) + "0", strings.Repeat("*a?x.", 29) + "0", sideBySide(threads(30, "0")...)} {
		size, _ := impl.SizeOf(p)
		inert, _ := impl.IsInert(p)
		for n := 2; n <= impl.MaxThreads; n++ {
			got, ok := impl.ProcessOfMachine(impl.Machine{Ready: threads(n, p)})
			if ok != (inert || n*(size+1)-1 <= impl.MaxNodes) || inert && got != "0" || ok == (got == "") {
				t.Error(n, p, got, ok)
			}
		}
	}
	// what the laws leave out does not count
	m := impl.Machine{Own: alphabet, Ready: threads(39, "#x.[a=b]*a?x.0"), Waiting: []string{"[a=b]~.0"}}
	if p, ok := impl.ProcessOfMachine(m); ok || p != "" {
		t.Error(p, ok)
	}
	m.Ready = threads(39, "#x.[a=b]#y.(0&[c=d]0)")
	if p, ok := impl.ProcessOfMachine(m); p != "#a.#b.[a=b]~.0" || !ok {
		t.Error(p, ok)
	}
}

// TestNoGoroutineIsLeft makes ticks that hand over names, and such that fail.
func TestNoGoroutineIsLeft(t *testing.T) {
	before := runtime.NumGoroutine()
	for range 20 {
		checkTick(t, "|a!b.0|a?x.#b."+letters26, "", "")
		checkNoMachine(t, machineIn("||a!b.0 a?x.0"))
		if n, ok := impl.MeetingsOf(endless, impl.MaxTicks); n != 66 || !ok {
			t.Fatal(n, ok)
		}
	}
	for range 1000 { // one that has answered may need a moment to end
		if runtime.NumGoroutine() <= before {
			return
		}
		time.Sleep(time.Millisecond)
	}
	t.Error("goroutines:", before, runtime.NumGoroutine())
}

// TestNoArgumentsOfChapter8 has texts that are no simple process.
func TestNoArgumentsOfChapter8(t *testing.T) {
	for _, p := range slices.Concat(noProcesses(), notSimple()) {
		if m, ok := impl.StartMachine(p); machineTold(m) != "||" || ok {
			t.Errorf("StartMachine(%.40q): %q %v", p, m, ok)
		}
		if n, ok := impl.TicksToRest(p); n != 0 || ok {
			t.Errorf("TicksToRest(%.40q): %v %v", p, n, ok)
		}
		for _, ticks := range []int{0, 1, 5, impl.MaxTicks, -1} {
			if m, ok := impl.RunMachine(p, ticks); machineTold(m) != "||" || ok {
				t.Errorf("RunMachine(%.40q, %d): %q %v", p, ticks, m, ok)
			}
			if list, ok := impl.TraceOf(p, ticks); len(list) != 0 || ok {
				t.Errorf("TraceOf(%.40q, %d): %q %v", p, ticks, list, ok)
			}
			if n, ok := impl.MeetingsOf(p, ticks); n != 0 || ok {
				t.Errorf("MeetingsOf(%.40q, %d): %d %v", p, ticks, n, ok)
			}
		}
	}
	// those without a normal form have machines
	for _, p := range beyondLimits() {
		simple, _ := impl.IsSimple(p)
		if m, ok := impl.StartMachine(p); ok != simple || ok && machineTold(m) != "|"+p+"|" {
			t.Error(p, m, ok)
		}
		if p, ok := impl.ProcessOfMachine(impl.Machine{Ready: []string{p}}); p != "" || ok {
			t.Error(p, ok)
		}
	}
}

// TestMachinesAreNew gives machines whose lists have room behind them, and changes those that are returned.
func TestMachinesAreNew(t *testing.T) {
	for _, text := range []string{
		"c|a!b.0 0 ~.0|d!d.0 a?x.x!x.0 e!e.0", "c|(0&0) 0 ~.0|d!d.0 e!e.0 b!b.0", "c|#x.x!x.0 0 ~.0|d!d.0 e!e.0", "|a!a.0 0 ~.0|d!d.0 e!e.0",
		"|*a?x.x!x.0 0|d!d.0 a!b.0 e!e.0", "|a!b.0 0|d!d.0 *a?x.0 e!e.0", "|0 [a=b]0|[a=b]0 [b=a]0", "|[a=b]0 0|d!d.0 e!e.0", "|~.0 0|a?x.0",
	} {
		given := machineIn(text)
		m := given
		m.Ready = append(slices.Clone(given.Ready), "behind", "behind", "behind")[:len(given.Ready)]
		m.Waiting = append(slices.Clone(given.Waiting), "behind", "behind", "behind")[:len(given.Waiting)]
		after, event, ok := impl.TickMachine(m)
		want := machineTold(after)
		impl.IsMachine(m)
		impl.IsAtRest(m)
		impl.ProcessOfMachine(m)
		impl.WaitingOver(m, "a")
		for _, list := range [][]string{after.Ready, after.Waiting} {
			list = list[:cap(list)]
			for i := range list {
				list[i] = "changed"
			}
		}
		again, same, okAgain := impl.TickMachine(m)
		if !ok || !okAgain || event != same || machineTold(again) != want {
			t.Error(text, "first", want, "then", again, same, okAgain)
		}
		for _, list := range [][]string{m.Ready, m.Waiting} {
			if behind := list[len(list) : len(list)+3]; !slices.Equal(behind, threads(3, "behind")) {
				t.Error(text, "has behind it", behind)
			}
		}
		if machineTold(m) != text {
			t.Error(text, "becomes", m)
		}
	}
	for range 2 {
		m, _ := impl.RunMachine(served, 4)
		started, _ := impl.StartMachine(served)
		trace, _ := impl.TraceOf(served, 4)
		if machineTold(m) != "|a!d.0 0 b!c.0|*a?x.b!x.0" || machineTold(started) != "|"+served+"|" || strings.Join(trace, " ") != "& . & a!c" {
			t.Error(m, started, trace)
		}
		for _, list := range [][]string{m.Ready, m.Waiting, started.Ready, trace} {
			for i := range list {
				list[i] = "changed"
			}
		}
	}
}
