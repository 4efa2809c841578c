package tests

import (
	"math"
	"slices"
	"strings"
	"testing"

	"loop.example/g01175/impl"
)

// checkTrace checks the events of all ticks of a process that comes to rest, and what waits then with the names that were made.
func checkTrace(t *testing.T, p, events, rest string) {
	t.Helper()
	want := strings.Fields(events)
	for n := range len(want) + 3 {
		some := want[:min(n, len(want))]
		if list, ok := impl.TraceOf(p, n); !slices.Equal(list, some) || !ok {
			t.Errorf("%s: %d ticks: %q %v", p, n, list, ok)
		}
		handed := 0
		for _, event := range some {
			handed += strings.Count(event, "!")
		}
		if meetings, ok := impl.MeetingsOf(p, n); meetings != handed || !ok {
			t.Errorf("%s: %d ticks: %d meetings %v", p, n, meetings, ok)
		}
		m, ok := impl.RunMachine(p, n)
		if is, _ := impl.IsAtRest(m); is != (n >= len(want)) || !ok || !impl.IsMachine(m) {
			t.Errorf("%s: %d ticks: at rest %v %v", p, n, is, ok)
		}
		if n >= len(want) && machineTold(m) != rest {
			t.Errorf("%s: %s, not %s", p, machineTold(m), rest)
		}
	}
	if n, ok := impl.TicksToRest(p); n != len(want) || !ok {
		t.Error(p, "ticks to rest:", n, ok)
	}
	if m, ok := impl.StartMachine(p); machineTold(m) != "|"+p+"|" || !ok {
		t.Error(p, "starts:", m, ok)
	}
}

func TestTraces8(t *testing.T) {
	for _, c := range [][3]string{
		{"(a!b.0&a?x.x!a.0)", "& . a!b 0 .", "||b!a.0"}, // the example
		{"0", "0", "||"},
		{"a!b.0", ".", "||a!b.0"},
		{"~.0", "~ 0", "||"},
		{"[a=a]0", "= 0", "||"},
		{"[a=b]0", ".", "||[a=b]0"},
		{"#x.0", "#a 0", "a||"},
		{"(0&0)", "& 0 0", "||"},
		{"*a?x.0", ".", "||*a?x.0"},
		{"(0+0)", ".", "||(0+0)"},
		{"(0+~.0)", "~ 0", "||"},
		{"((0&~.0)&(~.0&0))", "& & & 0 ~ ~ 0 0 0", "||"},
		{"#x.#y.(x!y.0&x?z.z!z.0)", "#a #b & . a!b 0 .", "ab||b!b.0"},
		{"(#x.a!x.0&#x.a!x.0)", "& #b #c . .", "bc||a!b.0 a!c.0"},
		{"(#x.a!x.0&(a?y.y!y.0&#x.a!x.x?z.0))", "& #b & . a!b #c 0 . .", "bc||b!b.0 a!c.c?z.0"},
		{"[a=a](a?x.[x=a]0&a!a.b!b.0)", "= & . a!a . = 0", "||b!b.0"},
		{served, "& . & a!c a!d 0 . 0 .", "||*a?x.b!x.0 b!c.0 b!d.0"},
		{"((a!c.0&a!d.0)&*a?x.b!x.0)", "& & . a!c a!d 0 . 0 .", "||*a?x.b!x.0 b!c.0 b!d.0"},
		{"((a!b.0+c!d.~.0)&(c?x.0+a?y.y!a.0))", "& . c!d ~ 0 0", "||"},
		{"((c?x.0+a?y.y!a.0)&(a!b.0+c!d.~.0))", "& . a!b 0 .", "||b!a.0"},
		{"((a!b.0+~.c!d.0)&a?x.0)", "& ~ . .", "||a?x.0 c!d.0"},
		{"(a?x.0&(a!b.0+~.c!d.0))", "& . a!b 0 0", "||"},
	} {
		checkTrace(t, c[0], c[1], c[2])
	}
}

// checkTicks checks that so many ticks, which end with these events, can be made and no more, though the machine is not at rest.
func checkTicks(t *testing.T, p string, most int, last string) {
	t.Helper()
	for n := range impl.MaxTicks + 1 {
		list, ok := impl.TraceOf(p, n)
		if ok != (n <= most) || ok && len(list) != n || !ok && len(list) != 0 {
			t.Fatalf("%s: %d ticks: %q %v", p, n, list, ok)
		}
		if n == most && !strings.HasSuffix(" "+strings.Join(list, " "), " "+last) {
			t.Errorf("%s: %d ticks: %q", p, n, list)
		}
		handed := 0
		for _, event := range list {
			handed += strings.Count(event, "!")
		}
		if meetings, okMeetings := impl.MeetingsOf(p, n); meetings != handed || okMeetings != ok {
			t.Errorf("%s: %d ticks: %d meetings %v", p, n, meetings, okMeetings)
		}
		m, okMachine := impl.RunMachine(p, n)
		if okMachine != ok || ok != (len(m.Ready) > 0) || !ok && machineTold(m) != "||" {
			t.Errorf("%s: %d ticks: %s %v", p, n, machineTold(m), okMachine)
		}
	}
	if n, ok := impl.TicksToRest(p); n != 0 || ok {
		t.Error(p, "comes to rest:", n, ok)
	}
}

func TestMachinesThatDoNotRest(t *testing.T) {
	checkTicks(t, endless, impl.MaxTicks, "a!a 0 . a!a 0 . a!a 0 .")
	checkTicks(t, "(*a?x.a!x.0&a!b.0)", impl.MaxTicks, "a!b 0 a!b 0 a!b 0")
	// there is no new name
	checkTicks(t, "(a!b.0&*a?x.~.#y.a!y.0)", 106, "#y a!y 0 ~ #z a!z 0 ~")
	checkTicks(t, "("+letters24+"&#y.#z.#z.0)", 4, "& . #y #z")
	checkTicks(t, "~."+sideBySide("#y.0", letters26), 2, "~ &")
	checkTicks(t, "(a?x.#y."+letters26+"&a!y.0)", 2, "& .")
	checkTicks(t, "#z.#a."+letters26, 0, "")
	// there are too many threads
	checkTicks(t, growing, 154, "a!b . 0 & a!b . 0 &")
}

// TestMaxTicks has machines that rest behind MaxTicks, and behind one more.
func TestMaxTicks(t *testing.T) {
	loop := "(*a?x." + strings.Repeat("~.", 10) + "0&" + strings.Repeat("a!b.", 15) + "0)" // rests behind 183
	for _, c := range []struct {
		p     string
		ticks int
	}{
		{loop, 183},
		{strings.Repeat("~.", 16) + loop, 199},
		{strings.Repeat("~.", 17) + loop, 200},
	} {
		if n, ok := impl.TicksToRest(c.p); n != c.ticks || !ok {
			t.Error(c.p, n, ok)
		}
		list, ok := impl.TraceOf(c.p, impl.MaxTicks)
		if len(list) != c.ticks || !ok {
			t.Error(c.p, list, ok)
		}
		m, ok := impl.RunMachine(c.p, impl.MaxTicks)
		if machineTold(m) != "||*a?x."+strings.Repeat("~.", 10)+"0" || !ok {
			t.Error(c.p, m, ok)
		}
		if n, ok := impl.MeetingsOf(c.p, impl.MaxTicks); n != 15 || !ok {
			t.Error(c.p, n, ok)
		}
	}
	checkTicks(t, strings.Repeat("~.", 18)+loop, impl.MaxTicks, "~ 0 ~ ~ 0 ~ 0")
	for _, ticks := range []int{-1, -2, -200, math.MinInt, impl.MaxTicks + 1, impl.MaxTicks + 2, 1000, math.MaxInt} {
		for _, p := range []string{"0", loop, endless} {
			if list, ok := impl.TraceOf(p, ticks); len(list) != 0 || ok {
				t.Error(p, ticks, list, ok)
			}
			if n, ok := impl.MeetingsOf(p, ticks); n != 0 || ok {
				t.Error(p, ticks, n, ok)
			}
			if m, ok := impl.RunMachine(p, ticks); machineTold(m) != "||" || ok {
				t.Error(p, ticks, m, ok)
			}
		}
	}
}
