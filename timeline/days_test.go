package timeline_test

import (
	"math/rand"
	"testing"

	"annuitant/api"
	"annuitant/timeline"
)

// checkDays compares Covers and Changes with what a line says.
func checkDays(t *testing.T, l line) {
	t.Helper()
	steps := l.steps()
	expectList(t, l.set(func(i int) bool { return l.states[i] > 0 }), timeline.Covers(steps), "Covers", short(steps))
	expectList(t, l.changes(), timeline.Changes(steps), "Changes", short(steps))
}

// P5.4: Covers and Changes of all timelines of six days, and of long ones.
func TestDays(t *testing.T) {
	r := rand.New(rand.NewSource(4))
	for _, kind := range kinds() {
		for _, first := range firsts(6) {
			for _, l := range lines(first, 6, some(kind)) {
				checkDays(t, l)
			}
		}
		checkDays(t, random(r, some(kind)))
		checkDays(t, random(r, some(kind)[:1]))
		expectList(t, []api.Span{{From: 0, To: api.MaxDay}}, timeline.Covers(longest(kind)), "Covers of the longest")
	}
}

// P5.4: the examples.
func TestDaysExamples(t *testing.T) {
	l := example()
	expectList(t, []int{0, 10, 30}, timeline.Changes(l), "Changes")
	expectList(t, []api.Span{{From: 0, To: 30}}, timeline.Covers(l), "Covers")
	expectList(t, nil, timeline.Changes(nil), "Changes of nothing")
	expectList(t, nil, timeline.Covers([]api.Step{}), "Covers of nothing")
	diff, e := timeline.Diff(l, []api.Step{step(0, 10, number("1/2")), step(10, 12, number("1"))})
	if e != api.OK {
		t.Errorf("Diff: error %d", e)
	}
	expectList(t, []api.Span{{From: 12, To: 30}}, diff, "Diff")
}

// P5.4: Diff of two kinds: no two values of them are the same, though all else is equal.
func TestDiffKinds(t *testing.T) {
	for _, kind := range kinds() {
		for _, other := range kinds() {
			if kind == other {
				continue
			}
			a, b := []api.Step{step(5, 8, some(kind)[0]), step(20, 30, some(kind)[1])}, []api.Step{step(7, 9, some(other)[0]), step(20, 30, some(other)[1])}
			diff, e := timeline.Diff(a, b)
			if e != api.OK {
				t.Errorf("Diff: error %d", e)
			}
			expectList(t, []api.Span{{From: 5, To: 9}, {From: 20, To: 30}}, diff, "Diff of two kinds", kind, other)
		}
	}
	diff, _ := timeline.Diff([]api.Step{step(0, 9, number("1")), step(9, 12, number("1/2"))}, []api.Step{step(0, 9, money("1")), step(9, 12, money("1/2"))})
	expectList(t, []api.Span{{From: 0, To: 12}}, diff, "Diff of numbers and money")
}

// What is not a timeline has no days, no values, and no parts, and does not differ.
func TestNotTimelines(t *testing.T) {
	good := [][]api.Step{nil, example(), {step(5, 8, api.Value{Kind: api.Truth})}}
	for i, bad := range notTimelines() {
		for _, day := range []int{0, 1, 5, 7, 10, 12, 25, 45, api.MaxDay - 1} {
			expectAt(t, bad, day, api.Value{}, false)
		}
		expectList(t, nil, timeline.Covers(bad), "Covers of the slice", i)
		expectList(t, nil, timeline.Changes(bad), "Changes of the slice", i)
		for _, c := range [][2]int{{0, api.MaxDay}, {0, 0}, {0, 2}, {20, 30}, {5, 3}} {
			got, e := timeline.Cut(bad, c[0], c[1])
			expectError(t, got, e, "Cut of the slice", i)
			got, e = timeline.Without(bad, c[0], c[1])
			expectError(t, got, e, "Without of the slice", i)
			sum, e := timeline.Sum(bad, c[0], c[1])
			expectSumError(t, api.ErrArg, sum, e, "Sum of the slice", i)
		}
		for _, other := range append(good, bad) {
			for _, pair := range [][2][]api.Step{{bad, other}, {other, bad}} {
				got, e := timeline.Join(pair[0], pair[1])
				expectError(t, got, e, "Join with the slice", i)
				diff, e := timeline.Diff(pair[0], pair[1])
				expectError(t, diff, e, "Diff with the slice", i)
			}
		}
	}
}
