package tests

import (
	"slices"
	"strings"
	"testing"

	"loop.example/g01175/impl"
)

// partsOf and kindOf are those of chapter 1 for texts that are known to be processes.
func partsOf(p string) []string {
	parts, _ := impl.PartsOf(p)
	return parts
}

func kindOf(p string) string {
	kind, _ := impl.KindOf(p)
	return kind
}

func isFree(name, p string) bool {
	free, _ := impl.FreeNames(p)
	return strings.Contains(free, name)
}

// lesserByLaw returns what the laws make of the first sign of p in one step, in the direction in which nothing is added.
func lesserByLaw(p string) []string {
	parts := partsOf(p)
	switch kindOf(p) {
	case "&", "+":
		return pairByLaw(kindOf(p), parts[0], parts[1])
	case "#":
		return ownByLaw(p[:3], parts[0])
	case "=":
		out := []string{"[" + p[3:4] + "=" + p[1:2] + "]" + parts[0]}
		if p[1] == p[3] || parts[0] == "0" {
			out = append(out, parts[0])
		}
		return out
	case "*":
		if parts[0] == "0" {
			return []string{"0"}
		}
	}
	return nil
}

func pairByLaw(kind, left, right string) []string {
	both := func(p, q string) string { return "(" + p + kind + q + ")" }
	out := []string{both(right, left)}
	if left == "0" {
		out = append(out, right)
	}
	if kindOf(left) == kind {
		inner := partsOf(left)
		out = append(out, both(inner[0], both(inner[1], right)))
	}
	if kind == "&" && kindOf(left) == "#" && !isFree(left[1:2], right) {
		out = append(out, left[:3]+both(left[3:], right))
	}
	return out
}

func ownByLaw(head, part string) []string {
	var out []string
	if !isFree(head[1:2], part) {
		out = append(out, part)
	}
	if kindOf(part) == "#" && part[:3] != head {
		out = append(out, part[:3]+head+part[3:])
	}
	if kindOf(part) == "&" {
		inner := partsOf(part)
		if !isFree(head[1:2], inner[0]) {
			out = append(out, "("+inner[0]+"&"+head+inner[1]+")")
		}
	}
	return out
}

// greaterByLaw returns what the laws make of p itself in one step by adding something.
func greaterByLaw(p string) []string {
	out := []string{"(" + p + "&0)", "(0+" + p + ")", "[a=a]" + p, "[c=c]" + p}
	for _, name := range []string{"a", "c", "x"} {
		if !isFree(name, p) {
			out = append(out, "#"+name+"."+p)
		}
	}
	if p == "0" {
		out = append(out, "*0", "[a=b]0", "[x=a]0")
	}
	return out
}

// otherNames returns p with its first sign binding another name.
func otherNames(p string) []string {
	kind := kindOf(p)
	if kind != "#" && kind != "?" {
		return nil
	}
	var out []string
	at := strings.IndexByte(p, '.') - 1
	part := partsOf(p)[0]
	for _, name := range []string{"a", "b", "c", "x", "z"} {
		if renamed, ok := impl.RenameFree(part, p[at:at+1], name); ok && !isFree(name, part) {
			out = append(out, p[:at]+name+"."+renamed)
		}
	}
	return out
}

// inAnyPlace returns p with what change makes of one of its subterms.
func inAnyPlace(p, path string, change func(string) []string) []string {
	var out []string
	at, _ := impl.SubtermAt(p, path)
	for _, q := range change(at) {
		if s, ok := impl.ReplaceAt(p, path, q); ok {
			out = append(out, s)
		}
	}
	for i := range partsOf(at) {
		out = append(out, inAnyPlace(p, path+string(rune('0'+i)), change)...)
	}
	return out
}

// smallProcesses returns all short ones, and ones of up to 12 signs that are made.
func smallProcesses() []string {
	var out []string
	for p := range shortProcesses(7) {
		out = append(out, p)
	}
	slices.Sort(out)
	for _, names := range []string{"ab", "abc", "axyz"} {
		m := maker{state: 7 * uint64(len(names)), names: names}
		for i := range 150 {
			out = append(out, m.process(3+i%10))
		}
	}
	return out
}

// TestNormalFormIsCongruent follows the laws from each small process: they lead to its normal form, and to no process with another one. Names that are bound are left aside by canonical names.
func TestNormalFormIsCongruent(t *testing.T) {
	const most = 2000 // processes that are looked at from one; most have far fewer
	cut := 0
	for _, p := range smallProcesses() {
		normal, ok := impl.NormalForm(p)
		if !ok {
			t.Fatal("no normal form:", p)
		}
		goal, _ := impl.CanonicalNames(normal)
		start, _ := impl.CanonicalNames(p)
		seen := map[string]bool{start: true}
		for list := []string{start}; len(list) > 0 && len(seen) < most; list = list[1:] {
			if s, ok := impl.NormalForm(list[0]); s != normal || !ok {
				t.Fatal(p, "has", normal, "but", list[0], "has", s)
			}
			for _, q := range inAnyPlace(list[0], "", lesserByLaw) {
				q, _ = impl.CanonicalNames(q)
				if !seen[q] {
					seen[q] = true
					list = append(list, q)
				}
			}
		}
		if len(seen) >= most {
			cut++
		} else if !seen[goal] {
			t.Fatal("not congruent:", p, normal)
		}
	}
	if cut > 50 {
		t.Error("not looked at to the end:", cut)
	}
}

// TestLawsKeepNormalForms goes from processes through many congruent ones, lesser and greater.
func TestLawsKeepNormalForms(t *testing.T) {
	m := maker{state: 11, names: "abcx"}
	anyLaw := func(p string) []string {
		return slices.Concat(lesserByLaw(p), otherNames(p))
	}
	for i := range 300 {
		p := m.process(4 + i%16)
		normal, ok := impl.NormalForm(p)
		q := p
		for step := range 25 {
			law := anyLaw
			if step%4 == 0 {
				law = greaterByLaw
			}
			all := inAnyPlace(q, "", law)
			if len(all) == 0 {
				continue
			}
			q = all[m.below(len(all))]
			if s, okQ := impl.NormalForm(q); s != normal || okQ != ok {
				t.Fatal(p, "has", normal, ok, "but", q, "has", s, okQ)
			}
			if is, okQ := impl.AreCongruent(p, q); is != ok || okQ != ok {
				t.Fatal("not congruent:", p, q)
			}
		}
	}
}

// checkShape tells an error unless a text is written as normal forms are: around is what is bound around it, free what is free in the whole.
func checkShape(t *testing.T, p, around, free string) {
	t.Helper()
	for kindOf(p) == "#" {
		checkLetter(t, p[1:2], around, free)
		if !isFree(p[1:2], p[3:]) {
			t.Error("not used:", p)
		}
		p, around = p[3:], around+p[1:2]
	}
	threads := listOf(p, "&")
	checkSorted(t, threads)
	for _, thread := range threads {
		if kindOf(thread) == "#" || len(threads) > 1 && thread == "0" {
			t.Error("no thread:", thread)
		}
		checkThread(t, thread, around, free)
	}
}

func checkThread(t *testing.T, p, around, free string) {
	t.Helper()
	switch kindOf(p) {
	case "0":
		return
	case "+":
		summands := listOf(p, "+")
		checkSorted(t, summands)
		for _, summand := range summands {
			if summand == "0" || kindOf(summand) == "+" {
				t.Error("no part of a sum:", p)
			}
			checkShape(t, summand, around, free)
		}
		return
	case "?":
		checkLetter(t, p[2:3], around, free)
		around += p[2:3]
	case "=":
		if p[1] >= p[3] || p[5:] == "0" {
			t.Error("match:", p)
		}
	case "*":
		if p == "*0" {
			t.Error("repeated:", p)
		}
	}
	checkShape(t, partsOf(p)[0], around, free)
}

// checkLetter tells an error unless a letter is the first one that may be bound.
func checkLetter(t *testing.T, name, around, free string) {
	t.Helper()
	if fresh, ok := impl.FreshName(free + around); name != fresh || !ok {
		t.Error("binds", name, "inside of", around, "where free are", free)
	}
}

func checkSorted(t *testing.T, list []string) {
	t.Helper()
	if !slices.IsSorted(list) {
		t.Error("order:", list)
	}
}

// listOf returns the parts of a kind with brackets to the right.
func listOf(p, kind string) []string {
	if kindOf(p) != kind {
		return []string{p}
	}
	parts := partsOf(p)
	return append(parts[:1], listOf(parts[1], kind)...)
}

// TestNormalFormsAreWritten checks how normal forms are written, and that their parts make them again.
func TestNormalFormsAreWritten(t *testing.T) {
	done := 0
	for _, p := range manyProcesses() {
		normal, ok := impl.NormalForm(p)
		if !ok {
			continue
		}
		done++
		free, _ := impl.FreeNames(normal)
		checkShape(t, normal, "", free)
		if again, ok := impl.NormalForm(normal); again != normal || !ok {
			t.Fatal("not the same again:", p, normal, again)
		}
		checkParts(t, p, normal)
		if t.Failed() {
			t.Fatal(p, normal)
		}
	}
	if done < 2000 {
		t.Error("few:", done)
	}
}

// checkParts makes the normal form again of its names and threads, of its components, and its first thread of its summands.
func checkParts(t *testing.T, p, normal string) {
	t.Helper()
	front, okFront := impl.FrontNames(p)
	threads, okThreads := impl.ThreadsOf(p)
	n, okCount := impl.CountThreads(p)
	if !okFront || !okThreads || !okCount || n != len(threads) {
		t.Error("parts fail:", p)
	}
	whole := "0"
	if n > 0 {
		whole = threads[n-1]
		for i := n - 2; i >= 0; i-- {
			whole = "(" + threads[i] + "&" + whole + ")"
		}
	}
	for i := len(front) - 1; i >= 0; i-- {
		whole = "#" + front[i:i+1] + "." + whole
	}
	if whole != normal {
		t.Error("names and threads:", front, threads, normal)
	}
	checkComponents(t, p, normal, front)
	summands, ok := impl.SummandsOf(p)
	if !ok || n == 0 && len(summands) != 0 || n > 0 && strings.Join(summands, " ") != strings.Join(listOf(threads[0], "+"), " ") {
		t.Error("summands:", summands, threads)
	}
}

// checkComponents checks that the components side by side are the normal form, each with names of its own, and that none falls into others.
func checkComponents(t *testing.T, p, normal, front string) {
	t.Helper()
	components, ok := impl.ComponentsOf(p)
	if !ok {
		t.Error("components fail:", p)
	}
	checkSorted(t, components)
	joined, names := "0", 0
	for _, c := range components {
		if is, ok := impl.IsNormal(c); !is || !ok {
			t.Error("not normal:", c)
		}
		if again, ok := impl.ComponentsOf(c); len(again) != 1 || again[0] != c || !ok {
			t.Error("components of a component:", c, again)
		}
		own, _ := impl.FrontNames(c)
		names += len(own)
		joined, _ = impl.JoinProcesses(joined, c)
	}
	if joined != normal || names != len(front) {
		t.Error("components joined:", components, joined, normal)
	}
}

// TestCallsThatBuild compares the calls that build a process with the normal form of its text.
func TestCallsThatBuild(t *testing.T) {
	m := maker{state: 3, names: "abcx"}
	for i := range 500 {
		p, q, name := m.process(1+i%20), m.process(1+m.below(20)), m.name()
		for want, f := range map[string]func() (string, bool){
			"(" + p + "&" + q + ")": func() (string, bool) { return impl.JoinProcesses(p, q) },
			"(" + p + "+" + q + ")": func() (string, bool) { return impl.SumOf(p, q) },
			"#" + name + "." + p:    func() (string, bool) { return impl.HideName(p, name) },
		} {
			normal, okNormal := impl.NormalForm(want)
			if s, ok := f(); s != normal || ok != okNormal {
				t.Error(want, normal, okNormal, s, ok)
			}
		}
		same, ok := impl.AreCongruent(p, q)
		normalP, okP := impl.NormalForm(p)
		normalQ, okQ := impl.NormalForm(q)
		if same != (normalP == normalQ && okP && okQ) || ok != (okP && okQ) {
			t.Error("congruent:", p, q, same, ok)
		}
	}
}

// TestUnfoldingEverywhere unfolds at all places of processes.
func TestUnfoldingEverywhere(t *testing.T) {
	m := maker{state: 9, names: "abx"}
	for i := range 300 {
		p := m.process(2 + i%25)
		done := 0
		for _, s := range inAnyPlace(p, "", func(q string) []string {
			if kindOf(q) == "*" {
				return []string{"(" + q[1:] + "&" + q + ")"}
			}
			return nil
		}) {
			for _, path := range pathsOf(p, "") {
				if u, ok := impl.UnfoldAt(p, path); ok && u == s {
					done++
				}
			}
		}
		again, _ := impl.CountKind(p, "*")
		if done != again {
			t.Error(p, "has", again, "signs *, unfolded:", done)
		}
	}
}

// pathsOf returns the paths of all subterms.
func pathsOf(p, path string) []string {
	out := []string{path}
	for i, part := range partsOf(p) {
		out = append(out, pathsOf(part, path+string(rune('0'+i)))...)
	}
	return out
}
