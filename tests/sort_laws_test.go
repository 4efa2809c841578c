package tests

import (
	"slices"
	"strconv"
	"strings"
	"testing"

	"loop.example/g01175/impl"
)

// sortsBySigns has the sorts of all that has a name, a free letter or the path of a sign that binds: the class in which each is, and all that carry others. Classes are joined one pair after the other, as long as some have to be.
type sortsBySigns struct {
	class   map[string]int
	carries [][2]string
}

func newSortsBySigns(p string) *sortsBySigns {
	s := &sortsBySigns{class: map[string]int{}}
	free, _ := impl.FreeNames(p)
	around := map[byte]string{}
	for i := range free {
		around[free[i]] = free[i : i+1]
		s.class[free[i:i+1]] = i
	}
	s.follow(p, ".", around)
	for s.joinCarried() {
	}
	return s
}

// follow enters what the signs at a path and behind it ask for; around has what the names there stand for.
func (s *sortsBySigns) follow(p, path string, around map[byte]string) {
	inside := map[byte]string{}
	for name, owner := range around {
		inside[name] = owner
	}
	bind := func(name byte) {
		inside[name] = path
		s.class[path] = 100 + len(s.class)
	}
	switch kindOf(p) {
	case "!":
		s.carries = append(s.carries, [2]string{around[p[0]], around[p[2]]})
	case "?":
		bind(p[2])
		s.carries = append(s.carries, [2]string{around[p[0]], path})
	case "#":
		bind(p[1])
	case "=":
		s.join(around[p[1]], around[p[3]])
	}
	for i, part := range partsOf(p) {
		s.follow(part, path+strconv.Itoa(i), inside)
	}
}

func (s *sortsBySigns) same(one, other string) bool { return s.class[one] == s.class[other] }

func (s *sortsBySigns) join(one, other string) {
	from, to := s.class[one], s.class[other]
	for owner, class := range s.class {
		if class == from {
			s.class[owner] = to
		}
	}
}

// joinCarried joins the first two that are carried by the same sort and apart. It fails if there are none.
func (s *sortsBySigns) joinCarried() bool {
	for i, c := range s.carries {
		for _, d := range s.carries[:i] {
			if s.same(c[0], d[0]) && !s.same(c[1], d[1]) {
				s.join(c[1], d[1])
				return true
			}
		}
	}
	return false
}

// way returns what one comes to by carrying, the first one with it, until that ends, or has come round.
func (s *sortsBySigns) way(owner string) []string {
	out := []string{owner}
	for range s.class {
		at := slices.IndexFunc(s.carries, func(c [2]string) bool { return s.same(c[0], out[len(out)-1]) })
		if at < 0 {
			break
		}
		out = append(out, s.carries[at][1])
	}
	return out
}

// carriesItself reports whether one comes back to a sort.
func (s *sortsBySigns) carriesItself(owner string) bool {
	return slices.ContainsFunc(s.way(owner)[1:], func(other string) bool { return s.same(owner, other) })
}

// namesLike returns those of some letters that have a sort.
func (s *sortsBySigns) namesLike(letters, owner string) string {
	out := ""
	for _, name := range letters {
		if s.same(string(name), owner) {
			out += string(name)
		}
	}
	return out
}

// told returns what the program has to tell of a process.
func (s *sortsBySigns) told(free string) sorts {
	all := sorts{sorted: true}
	for owner := range s.class {
		all.sorted = all.sorted && !s.carriesItself(owner)
	}
	var classes, levels, carried []string
	for _, name := range free {
		way := s.way(string(name))
		if class := s.namesLike(free, string(name)); class[0] == byte(name) {
			classes = append(classes, class)
		}
		if slices.ContainsFunc(way, s.carriesItself) {
			all.cycles += string(name)
		}
		level, behind := "-", ""
		if all.sorted {
			level = strconv.Itoa(len(way) - 1)
		}
		if len(way) > 1 {
			behind = s.namesLike(free, way[1])
		}
		levels, carried = append(levels, level), append(carried, orDash(behind))
	}
	all.classes, all.levels, all.carried = strings.Join(classes, " "), strings.Join(levels, " "), strings.Join(carried, " ")
	return all
}

// letter returns one of some letters.
func (m *maker) letter(letters string) string {
	i := m.below(len(letters))
	return letters[i : i+1]
}

// layered makes a process in which names of each layer of letters mostly carry such of the next one, so that it can often be sorted.
func (m *maker) layered(n int, layers ...string) string {
	if n <= 1 {
		return "0"
	}
	if n >= 3 && m.below(3) == 0 {
		k := 1 + m.below(n-2)
		return "(" + m.layered(k, layers...) + "&" + m.layered(n-1-k, layers...) + ")"
	}
	i := m.below(len(layers) - 1)
	a, b, c := m.letter(layers[i]), m.letter(layers[i+1]), m.letter(layers[i+1])
	rest := m.layered(n-1, layers...)
	switch m.below(9) {
	case 0:
		return "#" + b + "." + rest
	case 1:
		return "[" + b + "=" + c + "]" + rest
	case 2:
		return "*" + a + "?" + b + "." + rest
	case 3:
		return "(~." + rest + "+" + a + "!" + b + ".0)"
	case 4, 5:
		return a + "?" + b + "." + rest
	}
	return a + "!" + b + "." + rest
}

// layeredProcesses returns some that are made so, and the same ones with some or all names bound around them.
func layeredProcesses() []string {
	var out []string
	for i, layers := range [][]string{{"a", "b", "c"}, {"ab", "cd", "ef"}, {"ax", "by", "cz", "d"}, {"abc", "de"}, {"a", "b", "c", "a"}, {"ab", "bc", "cd", "de", "ef"}} {
		m := maker{state: uint64(101 + i), names: "abc"}
		for j := range 300 {
			p := m.layered(4+j%16, layers...)
			out = append(out, p, "d?a.#b."+p, "#a.#b.#c.#d.#e."+p)
		}
	}
	return out
}

// sortedProcesses returns processes of all kinds, and such that can often be sorted.
func sortedProcesses() []string {
	return append(manyProcesses(), layeredProcesses()...)
}

// TestSortsBySigns compares with what is found sign by sign.
func TestSortsBySigns(t *testing.T) {
	kinds := map[string]int{}
	for _, p := range sortedProcesses() {
		free, _ := impl.FreeNames(p)
		told, want := sortsTold(t, p), newSortsBySigns(p).told(free)
		if told != want {
			t.Fatal(p, "has", told, "not", want)
		}
		if t.Failed() {
			t.Fatal(p)
		}
		if !told.sorted && told.cycles == "" {
			kinds["round no free name"]++
		}
		if told.cycles != "" && len(told.cycles) < len(free) {
			kinds["round some names"]++
		}
		if strings.Contains(told.levels, "3") {
			kinds["level 3"]++
		}
		if told.sorted && len(strings.ReplaceAll(told.classes, " ", "")) > strings.Count(told.classes, " ")+1 {
			kinds["joined"]++
		}
	}
	for _, kind := range []string{"round no free name", "round some names", "level 3", "joined"} {
		if kinds[kind] < 100 {
			t.Error("few of a kind:", kind, kinds[kind])
		}
	}
}

// TestSortsOfAlikeOnes gives names that are bound other letters: the same is told. It is for letters that are exchanged, too.
func TestSortsOfAlikeOnes(t *testing.T) {
	for _, p := range sortedProcesses() {
		told := sortsTold(t, p)
		if q, ok := impl.CanonicalNames(p); !ok || sortsTold(t, q) != told {
			t.Fatal(p, q)
		}
		last, _ := impl.SendsLast(p)
		q := exchangedNames(p, "a", "b")
		again := sortsTold(t, q)
		lastAgain, _ := impl.SendsLast(q)
		if again.sorted != told.sorted || len(again.cycles) != len(told.cycles) || len(again.classes) != len(told.classes) || last != lastAgain {
			t.Fatal(p, told, q, again)
		}
	}
}

// checkKept checks that a process into which another one is reduced can be sorted as well: its free names are some of the other one's, those that have the same sort there have it here, what one carries it carries here, and no level is greater.
func checkKept(t *testing.T, before, after string) {
	t.Helper()
	if sorted, ok := impl.CanBeSorted(after); !sorted || !ok {
		t.Fatal(before, "can be sorted, but not", after)
	}
	free, _ := impl.FreeNames(after)
	for _, name := range free {
		a := string(name)
		level, ok := impl.LevelOf(before, a)
		if now, okNow := impl.LevelOf(after, a); now > level || !ok || !okNow {
			t.Fatal(before, level, ok, after, now, okNow)
		}
		carried, _ := impl.CarriedBy(before, a)
		now, ok := impl.CarriedBy(after, a)
		for _, other := range now {
			if !strings.ContainsRune(carried, other) || !ok {
				t.Fatal(before, a, "carries", carried, "and in", after, now)
			}
		}
		for _, other := range free {
			same, _ := impl.HaveSameSort(before, a, string(other))
			if now, ok := impl.HaveSameSort(after, a, string(other)); now && !same || !ok {
				t.Fatal(before, a, string(other), "are apart, but not in", after)
			}
		}
	}
}

// TestReductionsKeepSorts follows the reductions of processes that can be sorted.
func TestReductionsKeepSorts(t *testing.T) {
	kept, names := 0, 0
	for _, p := range slices.Concat(simpleProcesses(), layeredProcesses(), []string{"(a!b.0&a?x.x!c.0)", "#a.(a!b.0&*a?x.(x!c.0&x!d.0))"}) {
		sorted, _ := impl.CanBeSorted(p)
		reached, ok := impl.ReachedFrom(p)
		if !sorted || !ok {
			continue
		}
		for _, q := range reached {
			checkKept(t, p, q)
			results, _ := impl.ReductionsOf(q)
			for _, r := range results {
				checkKept(t, q, r)
				free, _ := impl.FreeNames(r)
				kept, names = kept+1, names+len(free)
			}
		}
	}
	if kept < 1000 || names < 2000 {
		t.Error("few reductions, or few names:", kept, names)
	}
}

// TestLawsOfSorts compares the calls with each other.
func TestLawsOfSorts(t *testing.T) {
	for _, p := range sortedProcesses() {
		sorted, _ := impl.CanBeSorted(p)
		cycles, _ := impl.CycleNames(p)
		free, _ := impl.FreeNames(p)
		if sorted && cycles != "" {
			t.Fatal(p, "can be sorted, but has", cycles)
		}
		for _, name := range free {
			a := string(name)
			level, ok := impl.LevelOf(p, a)
			carried, _ := impl.CarriedBy(p, a)
			if ok != sorted {
				t.Fatal(p, a, level, ok)
			}
			for _, other := range carried {
				below, _ := impl.LevelOf(p, string(other))
				if sorted && below != level-1 || strings.ContainsRune(cycles, other) != strings.Contains(cycles, a) {
					t.Fatal(p, a, level, "carries", string(other), below, cycles)
				}
			}
			uses, _ := impl.UsesOf(p, a)
			if sorted && uses != "" && level == 0 {
				t.Fatal(p, a, "is used and carries nothing")
			}
		}
	}
}

// TestAnyArgumentsOfChapter6 calls the functions with texts of all kinds: none may panic, and a call that fails returns zero values.
func TestAnyArgumentsOfChapter6(t *testing.T) {
	texts := slices.Concat(noProcesses(), notSimple(), beyondLimits(), noNames(), []string{"0", "a", "b", "x", "a!b.0", "a!a.0", "#x.x!x.0", example, letters26, alphabet})
	for _, p := range texts {
		valid := impl.IsProcess(p)
		for name, f := range callsForProcess() {
			if zero, ok := f(p); ok != valid || !ok && !zero {
				t.Errorf("%s(%.40q): %v %v", name, p, zero, ok)
			}
		}
		sorted, _ := impl.CanBeSorted(p)
		free, _ := impl.FreeNames(p)
		for _, a := range texts {
			isName := len(a) == 1 && strings.Contains(free, a)
			for name, f := range callsForName() {
				want := isName && (sorted || name != "LevelOf" && name != "SortText")
				if zero, ok := f(p, a); ok != want || !ok && !zero {
					t.Errorf("%s(%.40q, %.20q): %v %v", name, p, a, zero, ok)
				}
			}
			for _, b := range []string{"a", "b", "x", "", "aa", "\xff"} {
				want := isName && len(b) == 1 && strings.Contains(free, b)
				if same, ok := impl.HaveSameSort(p, a, b); ok != want || !ok && same {
					t.Errorf("HaveSameSort(%.40q, %.20q, %q): %v %v", p, a, b, same, ok)
				}
			}
		}
	}
}
