package tests

import (
	"maps"
	"slices"
	"strings"
	"testing"

	"loop.example/g01175/impl"
)

// labelsBySigns returns what is behind the actions of a process, by their labels, if some names are received and one is sent for names of its own.
func labelsBySigns(p, received, sent string) map[string][]string {
	found := map[string][]string{}
	for _, a := range actionsOf(p) {
		switch a.kind {
		case "~":
			found["~"] = append(found["~"], a.behind)
		case "!":
			found[a.over+"!"+a.name] = append(found[a.over+"!"+a.name], a.behind)
		case "#":
			found[a.over+"!#"+sent] = append(found[a.over+"!#"+sent], renamed(a.behind, a.name, sent))
		case "?":
			for _, name := range received {
				label := a.over + "?" + string(name)
				found[label] = append(found[label], renamed(a.behind, a.name, string(name)))
			}
		}
	}
	return found
}

// normalFormsOf returns those of a list, each once, in order. It fails if one has none.
func normalFormsOf(list []string) ([]string, bool) {
	found := map[string]bool{}
	for _, p := range list {
		normal, ok := impl.NormalForm(p)
		if !ok {
			return nil, false
		}
		found[normal] = true
	}
	return slices.Sorted(maps.Keys(found)), true
}

// namesFor returns the free names of a normal form, and the new one.
func namesFor(p string) (string, string) {
	normal, _ := impl.NormalForm(p)
	free, _ := impl.FreeNames(normal)
	fresh, _ := impl.FreshName(free)
	return free, fresh
}

// stepsBySigns returns the steps with those labels that have some part, in order. It fails if a result has no normal form.
func stepsBySigns(p, received, part string) ([][]string, bool) {
	_, fresh := namesFor(p)
	found := labelsBySigns(p, received, fresh)
	var out [][]string
	for _, label := range slices.Sorted(maps.Keys(found)) {
		if !strings.Contains(label, part) {
			continue
		}
		results, ok := normalFormsOf(found[label])
		if !ok {
			return nil, false
		}
		for _, result := range results {
			out = append(out, []string{label, result})
		}
	}
	return out, true
}

func firstsOf(steps [][]string) []string {
	var labels []string
	for _, one := range steps {
		labels = append(labels, one[0])
	}
	return slices.Compact(labels)
}

// TestStepsBySigns compares steps with what is found sign by sign, without normal forms.
func TestStepsBySigns(t *testing.T) {
	several, failed := 0, 0
	for _, p := range simpleProcesses() {
		free, fresh := namesFor(p)
		want, ok := stepsBySigns(p, free+fresh, "")
		checkSame(t, "StepsOf "+p, want, ok)(impl.StepsOf(p))
		labels, okLabels := impl.LabelsOf(p)
		if !slices.Equal(labels, firstsOf(want)) || okLabels != ok {
			t.Error("labels of", p, labels, okLabels)
		}
		want, ok = stepsBySigns(p, "", "!")
		checkSame(t, "OutputSteps "+p, want, ok)(impl.OutputSteps(p))
		for _, name := range "abz" {
			want, ok := stepsBySigns(p, string(name), "?")
			checkSame(t, "InputSteps "+p, want, ok)(impl.InputSteps(p, string(name)))
		}
		if len(labels) > 5 {
			several++
		}
		if !okLabels {
			failed++
		}
		if t.Failed() {
			t.Fatal(p)
		}
	}
	if several < 500 || failed < 5 {
		t.Error("few with several labels, or none that fail:", several, failed)
	}
}

// checkSame returns what compares steps with those that are wanted.
func checkSame(t *testing.T, name string, want [][]string, ok bool) func([][]string, bool) {
	t.Helper()
	return func(list [][]string, okList bool) {
		t.Helper()
		if joinedSteps(list) != joinedSteps(want) || okList != ok {
			t.Errorf("%s\n has %s %v\nnot %s %v", name, joinedSteps(list), okList, joinedSteps(want), ok)
		}
	}
}

// labelsOver returns all labels with some names, and ~.
func labelsOver(names string) []string {
	labels := []string{"~"}
	for _, a := range names {
		for _, b := range names {
			for _, between := range []string{"!", "!#", "?"} {
				labels = append(labels, string(a)+between+string(b))
			}
		}
	}
	return labels
}

// withBySigns returns what StepsWith must.
func withBySigns(p, label string) ([]string, bool) {
	object, ok := impl.ObjectOf(label)
	if !ok {
		object = "z"
	}
	normal, _ := impl.NormalForm(p)
	if strings.Contains(label, "#") && isFree(object, normal) {
		return nil, false
	}
	return normalFormsOf(labelsBySigns(normal, object, object)[label])
}

// TestEachLabel tries all labels, those of other names with them.
func TestEachLabel(t *testing.T) {
	found, failed := 0, 0
	for i, p := range simpleProcesses() {
		if i%7 > 0 {
			continue
		}
		for _, label := range labelsOver("abcx") {
			want, okWant := withBySigns(p, label)
			list, ok := impl.StepsWith(p, label)
			if !slices.Equal(list, want) || ok != okWant {
				t.Fatal(p, label, list, ok, "not", want, okWant)
			}
			if len(list) > 0 {
				found++
			}
			if !ok {
				failed++
			}
		}
	}
	if found < 2000 || failed < 2000 {
		t.Error("few labels with results, or few that fail:", found, failed)
	}
}

// afterBySigns follows labels one by one.
func afterBySigns(p string, labels []string) ([]string, bool) {
	at, _ := normalFormsOf([]string{p})
	for _, label := range labels {
		var next []string
		for _, q := range at {
			results, ok := withBySigns(q, label)
			if !ok {
				return nil, false
			}
			next = append(next, results...)
		}
		at, _ = normalFormsOf(next)
	}
	return at, true
}

// tracesBySigns adds the traces of at most n more steps; it fails if a result has no normal form.
func tracesBySigns(p, trace string, n int, found map[string]bool) bool {
	found[trace] = true
	if n == 0 {
		return true
	}
	free, fresh := namesFor(p)
	steps, ok := stepsBySigns(p, free+fresh, "")
	if !ok {
		return false
	}
	for _, one := range steps {
		longer := strings.TrimPrefix(trace+" "+one[0], " ")
		if len(found) > impl.MaxTraces || !tracesBySigns(one[1], longer, n-1, found) {
			return false
		}
	}
	return true
}

// smallSoups returns processes with few steps, that can be followed for some of them.
func smallSoups() []string {
	var out []string
	m := maker{state: 41, names: "ab"}
	for i := range 250 {
		out = append(out, m.soup(2+i%2, 3), "#a."+m.soup(3, 2), "#"+m.name()+"."+m.guarded(6+i%6))
	}
	m.names = "abc"
	for i := range 100 {
		out = append(out, m.soup(3, 4), m.simple(5+i%8))
	}
	return out
}

// TestRunsOfLabels follows labels that are chosen, and all traces.
func TestRunsOfLabels(t *testing.T) {
	m := maker{state: 43}
	long, failed, tooMany := 0, 0, 0
	for _, p := range smallSoups() {
		var labels []string
		at := p
		for range m.below(impl.MaxLabels + 1) {
			steps, _ := impl.StepsOf(at)
			if len(steps) == 0 {
				break
			}
			one := steps[m.below(len(steps))]
			labels, at = append(labels, one[0]), one[1]
			if any := labelsOver("abc"); m.below(9) == 0 {
				labels[len(labels)-1] = any[m.below(len(any))]
			}
		}
		want, okWant := afterBySigns(p, labels)
		list, ok := impl.AfterLabels(p, labels)
		if !slices.Equal(list, want) || ok != okWant {
			t.Fatal(p, labels, list, ok, "not", want, okWant)
		}
		if len(labels) > 3 {
			long++
		}
		if !ok {
			failed++
		}
		for n := range 4 {
			found := map[string]bool{}
			okWant := tracesBySigns(p, "", n, found) && len(found) <= impl.MaxTraces
			list, ok := impl.TracesOf(p, n)
			if ok != okWant || ok && !slices.Equal(list, slices.Sorted(maps.Keys(found))) || !ok && list != nil {
				t.Fatal(p, n, list, ok, "not", len(found), okWant)
			}
			if !ok {
				tooMany++
			}
		}
	}
	if long < 100 || failed < 5 || tooMany < 20 {
		t.Error("few of a kind:", long, failed, tooMany)
	}
}

// TestBothDoWhatEachDoes compares steps of two processes side by side with what is found sign by sign, and with reductions.
func TestBothDoWhatEachDoes(t *testing.T) {
	met, hidden := 0, 0
	m := maker{state: 47, names: "abc"}
	for i := range 1200 {
		p, q := m.soup(2+i%3, 3), m.soup(3+i%2, 4)
		left, right := actionsOf(p), actionsOf(q)
		var behind []string
		for _, a := range append(meetingsOf(left, right), meetingsOf(right, left)...) {
			behind = append(behind, a.behind)
			if strings.HasPrefix(a.behind, "#") {
				hidden++
			}
		}
		want, okWant := normalFormsOf(behind)
		list, ok := impl.CommunicationsOf(p, q)
		if !slices.Equal(list, want) || ok != okWant {
			t.Fatal(p, q, list, ok, "not", want, okWant)
		}
		if len(list) > 1 {
			met++
		}
		want, okWant = resultsBySigns("(" + p + "&" + q + ")")
		list, ok = impl.ParallelSteps(p, q)
		if !slices.Equal(list, want) || ok != okWant {
			t.Fatal(p, q, list, ok, "not", want, okWant)
		}
		if reductions, ok := impl.ReductionsOf("(" + p + "&" + q + ")"); ok && !slices.Equal(list, reductions) {
			t.Fatal(p, q, list, "but", reductions)
		}
	}
	if met < 100 || hidden < 100 {
		t.Error("few that meet in several ways, or with names of their own:", met, hidden)
	}
}

// exchangedNames puts two names of a text in each other's places.
func exchangedNames(text, one, other string) string {
	return strings.NewReplacer(one, other, other, one).Replace(text)
}

// TestExchangedNames exchanges names in processes and labels: the results are the same with these exchanged.
func TestExchangedNames(t *testing.T) {
	found := 0
	m := maker{state: 53, names: "abc"}
	for i := range 400 {
		p := m.soup(2+i%3, 2)
		for _, label := range labelsOver("abd") {
			for _, other := range "dz" {
				results, ok := impl.StepsWith(p, label)
				if !ok {
					continue
				}
				for j := range results {
					results[j] = exchangedNames(results[j], "a", string(other))
				}
				want, _ := normalFormsOf(results)
				list, ok := impl.StepsWith(exchangedNames(p, "a", string(other)), exchangedNames(label, "a", string(other)))
				if !slices.Equal(list, want) || !ok {
					t.Fatal(p, label, list, ok, "not", want)
				}
				found += len(list)
			}
		}
	}
	if found < 2000 {
		t.Error("few results:", found)
	}
}

// TestCongruentOnesStepAlike goes by the laws of chapter 2 to congruent processes: they make the same steps.
func TestCongruentOnesStepAlike(t *testing.T) {
	m := maker{state: 19, names: "abc"}
	for i := range 200 {
		p := m.soup(1+i%3, 3)
		steps, ok := impl.StepsOf(p)
		for range 6 {
			all := inAnyPlace(p, "", lesserByLaw)
			if len(all) == 0 {
				break
			}
			p = all[m.below(len(all))]
			checkSame(t, p, steps, ok)(impl.StepsOf(p))
		}
	}
}
