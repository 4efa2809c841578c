package tests

import (
	"slices"
	"strings"
	"testing"

	"loop.example/g01175/impl"
)

// machineBySigns is a machine whose ticks are found sign by sign, with the calls of chapter 1 alone.
type machineBySigns struct {
	own            string
	ready, waiting []string
}

func (m machineBySigns) given() impl.Machine {
	return impl.Machine{Own: m.own, Ready: slices.Clone(m.ready), Waiting: slices.Clone(m.waiting)}
}

func (m machineBySigns) told() string { return machineTold(m.given()) }

// offersBySigns returns all that a thread offers, from the left.
func offersBySigns(thread string) []string {
	switch kindOf(thread) {
	case "+":
		parts := partsOf(thread)
		return append(offersBySigns(parts[0]), offersBySigns(parts[1])...)
	case "*":
		return partsOf(thread)
	case "!", "?", "~":
		return []string{thread}
	}
	return nil
}

// areMet reports whether one of two offers sends over the name over which the other one receives.
func areMet(one, other string) bool {
	kinds := kindOf(one) + kindOf(other)
	return (kinds == "!?" || kinds == "?!") && one[0] == other[0]
}

// isMachine goes by the definition.
func (m machineBySigns) isMachine() bool {
	for i := range m.own {
		if !isNameText(m.own[i:i+1]) || strings.Count(m.own, m.own[i:i+1]) > 1 {
			return false
		}
	}
	for _, thread := range slices.Concat(m.ready, m.waiting) {
		if simple, ok := impl.IsSimple(thread); !simple || !ok {
			return false
		}
	}
	for i, thread := range m.waiting {
		if !strings.Contains("!?+*=", kindOf(thread)) || kindOf(thread) == "=" && thread[1] == thread[3] {
			return false
		}
		for _, offer := range offersBySigns(thread) {
			if kindOf(offer) == "~" || slices.ContainsFunc(m.waiting[:i], func(other string) bool {
				return slices.ContainsFunc(offersBySigns(other), func(o string) bool { return areMet(offer, o) })
			}) {
				return false
			}
		}
	}
	return len(m.ready)+len(m.waiting) <= impl.MaxThreads
}

// tick returns the machine behind a tick. It fails at rest, and if what is behind is none.
func (m machineBySigns) tick() (after machineBySigns, event string, ok bool) {
	if len(m.ready) == 0 {
		return machineBySigns{}, "", false
	}
	thread := m.ready[0]
	after = machineBySigns{m.own, slices.Clone(m.ready[1:]), slices.Clone(m.waiting)}
	parts, okPart := partsOf(thread), true
	switch kind := kindOf(thread); {
	case kind == "0":
		event = "0"
	case kind == "&":
		event = "&"
		after.ready = append(after.ready, parts...)
	case kind == "#":
		free, _ := freeOf(slices.Concat(m.ready, m.waiting)...)
		letters := lettersWithout(free + m.own)
		if letters == "" {
			return machineBySigns{}, "", false
		}
		event = "#" + letters[:1]
		parts[0], okPart = impl.RenameFree(parts[0], thread[1:2], letters[:1])
		after.ready = append(after.ready, parts[0])
		after.own += letters[:1]
	case kind == "=" && thread[1] == thread[3]:
		event = "="
		after.ready = append(after.ready, parts[0])
	default:
		event, okPart = after.offer(thread)
	}
	if !okPart || !after.isMachine() {
		return machineBySigns{}, "", false
	}
	return after, event, true
}

// offer takes the first offer of a thread that can be taken, or lets it wait. It fails if a name cannot be received.
func (m *machineBySigns) offer(thread string) (string, bool) {
	for _, offer := range offersBySigns(thread) {
		if kindOf(offer) == "~" {
			m.ready = append(m.ready, partsOf(offer)...)
			return "~", true
		}
		for i, other := range m.waiting {
			j := slices.IndexFunc(offersBySigns(other), func(o string) bool { return areMet(offer, o) })
			if j < 0 {
				continue
			}
			sends, receives := offer, offersBySigns(other)[j]
			if kindOf(sends) == "?" {
				sends, receives = receives, sends
			}
			rest, ok := impl.RenameFree(partsOf(receives)[0], receives[2:3], sends[2:3])
			m.ready = append(m.ready, partsOf(sends)[0], rest)
			if kindOf(thread) == "*" {
				m.ready = append(m.ready, thread)
			}
			if kindOf(other) != "*" {
				m.waiting = slices.Delete(m.waiting, i, i+1)
			}
			return sends[:3], ok
		}
	}
	m.waiting = append(m.waiting, thread)
	return ".", true
}

// process joins normal forms by the calls of chapter 2.
func (m machineBySigns) process() (string, bool) {
	p, ok := "0", true
	for _, thread := range slices.Concat(m.ready, m.waiting) {
		if p, ok = impl.JoinProcesses(p, thread); !ok {
			return "", false
		}
	}
	for _, name := range m.own {
		if p, ok = impl.HideName(p, string(name)); !ok {
			return "", false
		}
	}
	return p, true
}

// checkProcess compares the process of a machine with what is joined.
func (m machineBySigns) checkProcess(t *testing.T) {
	t.Helper()
	p, ok := impl.ProcessOfMachine(m.given())
	if q, okJoined := m.process(); p != q || ok != okJoined {
		t.Fatal(m.told(), "is", p, ok, "not", q, okJoined)
	}
}

// check compares all else that is told of a machine with what is found sign by sign; it returns the machine behind a tick, if there is one.
func (m machineBySigns) check(t *testing.T) (machineBySigns, string, bool) {
	t.Helper()
	if !impl.IsMachine(m.given()) {
		t.Fatal("no machine:", m.told())
	}
	if is, ok := impl.IsAtRest(m.given()); is != (len(m.ready) == 0) || !ok {
		t.Fatal(m.told(), "at rest:", is, ok)
	}
	want, wantEvent, wantOk := m.tick()
	after, event, ok := impl.TickMachine(m.given())
	if machineTold(after) != want.told() || event != wantEvent || ok != wantOk {
		t.Fatal(m.told(), "becomes", machineTold(after), event, ok, "not", want.told(), wantEvent, wantOk)
	}
	for _, name := range "abcx" {
		sends, receives := 0, 0
		for _, thread := range m.waiting {
			offers := strings.Join(offersBySigns(thread), " ")
			if strings.Contains(" "+offers, " "+string(name)+"!") {
				sends++
			}
			if strings.Contains(" "+offers, " "+string(name)+"?") {
				receives++
			}
		}
		if n, k, ok := impl.WaitingOver(m.given(), string(name)); n != sends || k != receives || !ok {
			t.Fatal(m.told(), string(name), n, k, ok, "not", sends, receives)
		}
	}
	return want, event, ok
}

// followed has how often ticks led to the same process, and to a reduction, how often machines at rest were stuck, how often ticks failed, and how many there were of each kind.
type followed struct {
	same, reduced, stuck, failed int
	kinds                        map[string]int
}

// step checks a machine and what promise 8 tells of it and the one behind a tick, if their processes are told; it returns that one with the event.
func (f *followed) step(t *testing.T, m machineBySigns) (machineBySigns, string, bool) {
	t.Helper()
	after, event, ok := m.check(t)
	if ok {
		f.kinds[strings.Trim(event, alphabet)]++
	} else if len(m.ready) > 0 {
		f.failed++
	}
	p, okProcess := impl.ProcessOfMachine(m.given())
	results, okResults := impl.ReductionsOf(p)
	if !okProcess || !okResults {
		return after, event, ok
	}
	q, okAfter := impl.ProcessOfMachine(after.given())
	switch {
	case len(m.ready) == 0:
		if len(results) > 0 {
			t.Fatal(m.told(), "is not stuck:", p, results)
		}
		f.stuck++
	case !ok || !okAfter:
	case event == "~" || strings.Contains(event, "!"):
		if !slices.Contains(results, q) {
			t.Fatal(m.told(), event, "is", p, "and then", q, "not one of", results)
		}
		f.reduced++
	default:
		if p != q {
			t.Fatal(m.told(), event, "is", p, "but then", q)
		}
		f.same++
	}
	return after, event, ok
}

// run follows a process by ticks.
func (f *followed) run(t *testing.T, p string, ticks int) {
	t.Helper()
	m := machineBySigns{ready: []string{p}}
	var events []string
	for n := range ticks {
		ran, okRan := impl.RunMachine(p, n)
		trace, okTrace := impl.TraceOf(p, n)
		meetings, okMeetings := impl.MeetingsOf(p, n)
		if machineTold(ran) != m.told() || !slices.Equal(trace, events) || meetings != strings.Count(strings.Join(events, ""), "!") || !okRan || !okTrace || !okMeetings {
			t.Fatal(p, n, ran, okRan, trace, okTrace, meetings, okMeetings)
		}
		after, event, ok := f.step(t, m)
		if !ok {
			m.checkProcess(t)
			checkEnd(t, p, n, len(m.ready) == 0)
			return
		}
		m, events = after, append(events, event)
	}
}

// checkEnd checks that behind so many ticks there are no more, at rest or not.
func checkEnd(t *testing.T, p string, ticks int, rests bool) {
	t.Helper()
	if !rests {
		checkTicks(t, p, ticks, "")
		return
	}
	m, ok := impl.RunMachine(p, ticks)
	more, okMore := impl.RunMachine(p, ticks+1)
	trace, okTrace := impl.TraceOf(p, impl.MaxTicks)
	n, okRest := impl.TicksToRest(p)
	if machineTold(m) != machineTold(more) || len(trace) != ticks || n != ticks || !ok || !okMore || !okTrace || !okRest {
		t.Fatal(p, ticks, m, ok, more, okMore, trace, okTrace, n, okRest)
	}
}

// checkEnough checks that there were enough machines of each kind.
func (f *followed) checkEnough(t *testing.T, failed int) {
	t.Helper()
	if f.same < 4000 || f.reduced < 900 || f.stuck < 600 || f.failed < failed {
		t.Error("few ticks that lead to processes, or fail:", f)
	}
	for _, kind := range []string{"0", "&", "#", "=", "~", ".", "!"} {
		if f.kinds[kind] < 100 {
			t.Error("few:", kind, f.kinds[kind])
		}
	}
}

func TestMachinesBySigns(t *testing.T) {
	f := followed{kinds: map[string]int{}}
	for i, p := range simpleProcesses() {
		if i%5 == 0 {
			f.run(t, p, 14)
		}
	}
	for i, names := range []string{"ab", "abc", "axyz"} {
		m := maker{state: 41 + uint64(i), names: names}
		for j := range 150 {
			f.run(t, m.soup(3+j%5, 4), 30)
		}
	}
	f.checkEnough(t, 0)
}

// offering makes a thread that may wait.
func (m *maker) offering(n int) string {
	switch m.below(6) {
	case 0:
		return "[" + m.name() + "=" + m.name() + "]" + m.simple(n)
	case 1:
		return "*" + m.name() + "?" + m.name() + "." + m.simple(n)
	case 2, 3:
		return "(" + m.guarded(n) + "+" + m.guarded(n) + ")"
	}
	return m.guarded(n + 1)
}

// machine makes one with some threads that are ready, and with those of some others that may wait.
func (m *maker) machine(own string, ready, waiting int) machineBySigns {
	out := machineBySigns{own: own}
	for range ready {
		thread := m.simple(1 + m.below(7))
		if m.below(3) > 0 {
			thread = m.offering(1 + m.below(7))
		}
		out.ready = append(out.ready, thread)
	}
	for range waiting {
		with := out
		with.waiting = append(slices.Clone(out.waiting), m.offering(1+m.below(7)))
		if with.isMachine() {
			out = with
		}
	}
	return out
}

// machines returns some with much that waits, among them such to which few letters are left, or few threads may come.
func machines() []machineBySigns {
	var out []machineBySigns
	for i, names := range []string{"ab", "abc", "abcdef", "xyz", alphabet} {
		m := maker{state: 57 + uint64(i), names: names}
		for j := range 180 {
			own, from := alphabet[:m.below(8)], m.below(22)
			if j%3 == 0 {
				own = alphabet[from+m.below(5):] + alphabet[:from]
			}
			made := m.machine(own, 1+m.below(4), 1+j%9)
			if j%5 == 0 {
				left := impl.MaxThreads - len(made.ready) - len(made.waiting)
				made.waiting = append(made.waiting, threads(left-m.below(3), "[a=b]0")...)
			}
			out = append(out, made)
		}
	}
	return out
}

func TestAnyMachines(t *testing.T) {
	f := followed{kinds: map[string]int{}}
	for _, m := range machines() {
		m.checkProcess(t)
		for range 25 {
			after, _, ok := f.step(t, m)
			if !ok {
				m.checkProcess(t)
				break
			}
			m = after
		}
	}
	f.checkEnough(t, 60)
}

// TestMachinesByDefinition has lists of which most are no machine.
func TestMachinesByDefinition(t *testing.T) {
	counts := map[bool]int{}
	check := func(m machineBySigns) {
		t.Helper()
		want := m.isMachine()
		if impl.IsMachine(m.given()) != want {
			t.Fatal(m.told(), "a machine:", !want)
		}
		if !want {
			checkNoMachine(t, m.given())
		}
		counts[want]++
	}
	for _, names := range []string{"ab", "abcd", alphabet} {
		m := maker{state: 5 * uint64(len(names)), names: names}
		for i := range 1500 {
			made := machineBySigns{own: alphabet[:m.below(3)]}
			for range 1 + i%4 {
				made.waiting = append(made.waiting, m.offering(1+m.below(6)))
			}
			for range m.below(3) {
				made.ready = append(made.ready, m.simple(1+m.below(6)))
			}
			check(made)
			made.waiting = append(made.waiting, m.simple(1+m.below(4)))
			check(made)
			made.own += m.name()
			check(made)
		}
	}
	// all pairs of small ones
	var small []string
	for p := range shortProcesses(9) {
		if simple, _ := impl.IsSimple(p); simple && len(p) > 8 == (kindOf(p) == "+") {
			small = append(small, p)
		}
	}
	slices.Sort(small)
	for i, p := range small {
		check(machineBySigns{waiting: []string{p}})
		for j := i % 7; j < len(small); j += 7 {
			check(machineBySigns{waiting: []string{p, small[j]}})
		}
	}
	if counts[true] < 1500 || counts[false] < 1500 {
		t.Error("few:", counts)
	}
}

// TestAnyArgumentsOfChapter8 calls the functions with texts of all kinds: none may panic, and a call that fails returns zero values.
func TestAnyArgumentsOfChapter8(t *testing.T) {
	texts := slices.Concat(noProcesses(), notSimple(), beyondLimits(), noNames(), noTuples(), []string{"0", "a", "b", "x", "aa", "abc", "zyxw", "a!b.0", "#x.x!x.0", "*a?x.0", example, served, endless, growing, letters26, alphabet})
	for i, one := range texts {
		other := texts[(i*7+3)%len(texts)]
		for _, m := range []machineBySigns{
			{own: one}, {ready: []string{one}}, {waiting: []string{one}}, {one, []string{one}, []string{one}},
			{own: "x", ready: []string{other, one}}, {own: "", ready: []string{"~.0", one}, waiting: []string{other, "a!b.0"}}, {other, []string{"0"}, []string{one, other}}, {waiting: []string{one, other, other}},
		} {
			if m.isMachine() {
				m.check(t)
				m.checkProcess(t)
			} else {
				checkNoMachine(t, m.given())
			}
		}
		simple, _ := impl.IsSimple(one)
		for _, ticks := range []int{-1, 0, 1, 7, impl.MaxTicks, impl.MaxTicks + 1} {
			m, ok := impl.RunMachine(one, ticks)
			if ok && (!simple || ticks < 0 || ticks > impl.MaxTicks || !impl.IsMachine(m)) || !ok && machineTold(m) != "||" {
				t.Errorf("RunMachine(%.40q, %d): %q %v", one, ticks, m, ok)
			}
			if list, okTrace := impl.TraceOf(one, ticks); okTrace != ok || len(list) > max(ticks, 0) {
				t.Errorf("TraceOf(%.40q, %d): %q %v", one, ticks, list, okTrace)
			}
			if n, okMeetings := impl.MeetingsOf(one, ticks); okMeetings != ok || n < 0 || n > max(ticks, 0) {
				t.Errorf("MeetingsOf(%.40q, %d): %d %v", one, ticks, n, okMeetings)
			}
		}
		if m, ok := impl.StartMachine(one); ok != simple || ok && machineTold(m) != "|"+one+"|" || !ok && machineTold(m) != "||" {
			t.Errorf("StartMachine(%.40q): %q %v", one, m, ok)
		}
		if n, ok := impl.TicksToRest(one); ok != (n > 0) || ok && !simple {
			t.Errorf("TicksToRest(%.40q): %d %v", one, n, ok)
		}
	}
}
