package timeline_test

import (
	"math"
	"math/rand"
	"testing"

	"annuitant/api"
	"annuitant/timeline"
)

// expectAt checks the value of a day.
func expectAt(t *testing.T, l []api.Step, day int, want api.Value, wantOk bool) {
	t.Helper()
	if got, ok := timeline.At(l, day); ok != wantOk || !equal(got, want) {
		t.Errorf("At(%v, %d) = %v, %v; want %v, %v", short(l), day, got, ok, want, wantOk)
	}
}

// P5.2: At of each day of short timelines of all kinds, and of days around them.
func TestAt(t *testing.T) {
	for _, kind := range kinds() {
		for _, first := range firsts(5) {
			for _, l := range lines(first, 5, some(kind)) {
				steps := l.steps()
				for i := -3; i < 8; i++ {
					want, ok := l.value(i)
					expectAt(t, steps, first+i, want, ok)
				}
			}
		}
	}
}

// P5.2: At of the example, at the ends of the numbering, and of numbers that are no days.
func TestAtEnds(t *testing.T) {
	l := example()
	expectAt(t, l, 9, number("1/2"), true)
	expectAt(t, l, 10, number("1"), true)
	expectAt(t, l, 29, number("1"), true)
	expectAt(t, l, 30, api.Value{}, false)
	all := []api.Step{step(0, api.MaxDay, money("-7/3"))}
	expectAt(t, all, 0, money("-7/3"), true)
	expectAt(t, all, api.MaxDay-1, money("-7/3"), true)
	for _, day := range []int{-1, -2, math.MinInt64, api.MaxDay, api.MaxDay + 1, 1 << 32, 1<<32 + 5, -1<<32 + 5, math.MaxInt64} {
		expectAt(t, all, day, api.Value{}, false)
		expectAt(t, l, day, api.Value{}, false)
		expectAt(t, nil, day, api.Value{}, false)
	}
	expectAt(t, nil, 0, api.Value{}, false)
	long := longest(api.Truth)
	expectAt(t, long, 0, long[0].V, true)
	expectAt(t, long, api.MaxDay-1, long[api.MaxDay-1].V, true)
}

// bounds returns the bounds of spans that are tried for short lines of n days.
func bounds(first, n int) []int {
	list := []int{0, api.MaxDay}
	for day := max(first-1, 0); day <= min(first+n+1, api.MaxDay); day++ {
		list = append(list, day)
	}
	return list
}

// checkParts compares Cut and Without with what a line keeps.
func checkParts(t *testing.T, l line, steps []api.Step, from, to int) {
	t.Helper()
	cut, e := timeline.Cut(steps, from, to)
	without, f := timeline.Without(steps, from, to)
	if from > to {
		expectError(t, cut, e, "Cut", from, to)
		expectError(t, without, f, "Without", from, to)
		return
	}
	inside := func(day int) bool { return from <= day && day < to }
	expect(t, l.kept(inside).steps(), cut, e, "Cut", short(steps), from, to)
	expect(t, l.kept(func(day int) bool { return !inside(day) }).steps(), without, f, "Without", short(steps), from, to)
}

// P5.2: Cut and Without of all timelines of five days, by all spans around them.
func TestShortParts(t *testing.T) {
	for _, first := range firsts(5) {
		for _, l := range lines(first, 5, some(api.Number)) {
			steps := l.steps()
			for _, from := range bounds(first, 5) {
				for _, to := range bounds(first, 5) {
					checkParts(t, l, steps, from, to)
				}
			}
		}
	}
}

// P5.2: Cut and Without of long timelines of all kinds.
func TestParts(t *testing.T) {
	r := rand.New(rand.NewSource(1))
	for _, kind := range kinds() {
		l := random(r, some(kind))
		steps := l.steps()
		for range 4 {
			from := r.Intn(api.MaxDay + 1)
			checkParts(t, l, steps, from, from+r.Intn(api.MaxDay+1-from))
		}
		s := steps[len(steps)/2]
		checkParts(t, l, steps, s.From, s.To)
		checkParts(t, l, steps, s.To, s.To)
		checkParts(t, l, steps, 0, api.MaxDay)
	}
}

// P5.2: the examples of Cut and Without.
func TestPartsExamples(t *testing.T) {
	l := example()
	got, e := timeline.Cut(l, 5, 20)
	expect(t, []api.Step{step(5, 10, number("1/2")), step(10, 20, number("1"))}, got, e, "Cut")
	got, e = timeline.Without(l, 5, 20)
	expect(t, []api.Step{step(0, 5, number("1/2")), step(20, 30, number("1"))}, got, e, "Without")
	for _, day := range []int{0, 5, 10, 20, 30, 31, api.MaxDay} {
		got, e = timeline.Cut(l, day, day)
		expect(t, nil, got, e, "Cut of no days", day)
		got, e = timeline.Without(l, day, day)
		expect(t, l, got, e, "Without no days", day)
		got, e = timeline.Cut(nil, day, api.MaxDay)
		expect(t, nil, got, e, "Cut of nothing", day)
		got, e = timeline.Without([]api.Step{}, day, api.MaxDay)
		expect(t, nil, got, e, "Without of nothing", day)
	}
}

// P5.2: Cut and Without by what is no span.
func TestNotSpans(t *testing.T) {
	list := [][]api.Step{nil, example(), longest(api.Truth)[:9], {step(0, api.MaxDay, number("1"))}}
	for _, bad := range notSpans() {
		for _, l := range list {
			got, e := timeline.Cut(l, bad[0], bad[1])
			expectError(t, got, e, "Cut", bad)
			got, e = timeline.Without(l, bad[0], bad[1])
			expectError(t, got, e, "Without", bad)
		}
	}
}

// P5.2, P5.4: Join and Diff of all pairs of timelines of five days.
func TestShortPairs(t *testing.T) {
	for _, first := range firsts(5) {
		all := lines(first, 5, some(api.Days))
		for _, a := range all {
			for _, b := range all {
				checkPair(t, a, b, a.steps(), b.steps())
			}
		}
	}
}

// checkPair compares Join and Diff of two timelines with what lines of them say.
func checkPair(t *testing.T, a, b line, stepsA, stepsB []api.Step) {
	t.Helper()
	joined, e := timeline.Join(stepsA, stepsB)
	expect(t, a.joined(b).steps(), joined, e, "Join", short(stepsA), short(stepsB))
	diff, e := timeline.Diff(stepsA, stepsB)
	if e != api.OK {
		t.Errorf("Diff: error %d", e)
	}
	expectList(t, a.set(func(i int) bool { return a.states[i] != b.states[i] }), diff, "Diff", short(stepsA), short(stepsB))
}

// P5.2, P5.4: Join and Diff of long timelines of all kinds.
func TestPairs(t *testing.T) {
	r := rand.New(rand.NewSource(2))
	for _, kind := range kinds() {
		for range 3 {
			a, b := random(r, some(kind)), random(r, some(kind))
			checkPair(t, a, b, a.steps(), b.steps())
			checkPair(t, b, a, b.steps(), a.steps())
		}
	}
}

// P5.2: the examples of Join, and Join with nothing.
func TestJoinExamples(t *testing.T) {
	l := example()
	got, e := timeline.Join(l, []api.Step{step(8, 12, number("0"))})
	expect(t, []api.Step{step(0, 8, number("1/2")), step(8, 12, number("0")), step(12, 30, number("1"))}, got, e, "Join")
	got, e = timeline.Join(l, []api.Step{step(10, 12, number("1/2"))})
	expect(t, []api.Step{step(0, 12, number("1/2")), step(12, 30, number("1"))}, got, e, "Join")
	got, e = timeline.Join([]api.Step{step(10, 12, number("1/2"))}, l)
	expect(t, l, got, e, "Join")
	got, e = timeline.Join(nil, []api.Step{})
	expect(t, nil, got, e, "Join of nothing")
}

// P5.2: Join of two kinds of values; what is empty has no kind.
func TestJoinKinds(t *testing.T) {
	for _, kind := range kinds() {
		a := []api.Step{step(5, 8, some(kind)[0])}
		got, e := timeline.Join(a, nil)
		expect(t, a, got, e, "Join with nothing", kind)
		got, e = timeline.Join([]api.Step{}, a)
		expect(t, a, got, e, "Join of nothing and", kind)
		for _, other := range kinds() {
			for _, from := range []int{0, 3, 5, 6, 8, 20} {
				b := []api.Step{step(from, from+3, some(other)[1])}
				got, e = timeline.Join(a, b)
				if other != kind {
					expectError(t, got, e, "Join", kind, other)
				} else if e != api.OK {
					t.Errorf("Join of two timelines of the kind %d: error %d", kind, e)
				}
			}
		}
	}
}
