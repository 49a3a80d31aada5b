package span_test

import (
	"math"
	"testing"

	"annuitant/api"
	"annuitant/span"
)

// noDays returns numbers that are no days, before and after all days.
func noDays() (before, after []int) {
	before = []int{-1, -2, -api.MaxDay, -1 << 32, math.MinInt64 + 1, math.MinInt64}
	after = []int{api.MaxDay, api.MaxDay + 1, 1 << 17, 1 << 32, 1<<32 + 5, math.MaxInt64 - 1, math.MaxInt64}
	return before, after
}

// expectNumber checks a number that is the result of a call.
func expectNumber(t *testing.T, want, got int, what ...any) {
	t.Helper()
	if got != want {
		t.Errorf("%v = %d, want %d", what, got, want)
	}
}

// P4.3: Has, Before and Nth of each day of short sets, and the number of their days.
func TestShortDays(t *testing.T) {
	for _, first := range firsts() {
		for bits := range 128 {
			l := picked(first, bits)
			n := 0
			for i := -2; i < 9; i++ {
				has := i >= 0 && bits>>i&1 == 1
				if got := span.Has(l, first+i); got != has {
					t.Errorf("Has(%v, %d) = %v", l, first+i, got)
				}
				expectNumber(t, n, span.Before(l, first+i), "Before", l, first+i)
				if has {
					expectNth(t, l, n, first+i, true)
					n++
				}
			}
			expectNumber(t, n, span.Days(l), "Days", l)
			expectNth(t, l, n, 0, false)
			expectNth(t, l, -1, 0, false)
		}
	}
}

// expectNth checks the day of a set of which n days are less.
func expectNth(t *testing.T, l []api.Span, n, want int, wantOk bool) {
	t.Helper()
	if got, ok := span.Nth(l, n); got != want || ok != wantOk {
		t.Errorf("Nth(%v, %d) = %d, %v; want %d, %v", short(l), n, got, ok, want, wantOk)
	}
}

// P4.3: Has, Days, Before and Nth of sets of all sorts, at days of all sorts.
func TestDays(t *testing.T) {
	for _, l := range sets() {
		has := daysOf(l)
		n := 0
		for day := range has {
			if day%97 == 0 || day < 40 || day > api.MaxDay-40 {
				if got := span.Has(l, day); got != has[day] {
					t.Errorf("Has(%v, %d) = %v", short(l), day, got)
				}
				expectNumber(t, n, span.Before(l, day), "Before", short(l), day)
				if has[day] {
					expectNth(t, l, n, day, true)
				}
			}
			if has[day] {
				n++
			}
		}
		expectNumber(t, n, span.Days(l), "Days", short(l))
	}
}

// P4.3: numbers that are no days of a set, or of which it has not so many.
func TestNoDays(t *testing.T) {
	before, after := noDays()
	for _, l := range sets() {
		for _, day := range before {
			if span.Has(l, day) {
				t.Errorf("Has(%v, %d)", short(l), day)
			}
			expectNumber(t, 0, span.Before(l, day), "Before", short(l), day)
			expectNth(t, l, day, 0, false)
		}
		for _, day := range after {
			if span.Has(l, day) {
				t.Errorf("Has(%v, %d)", short(l), day)
			}
			expectNumber(t, span.Days(l), span.Before(l, day), "Before", short(l), day)
			expectNth(t, l, day, 0, false)
		}
		expectNth(t, l, span.Days(l), 0, false)
	}
}

// P4.3: the examples, and the ends of the numbering.
func TestDaysExamples(t *testing.T) {
	a := spans(0, 10, 20, 30)
	expectNumber(t, 20, span.Days(a), "Days of a")
	expectNumber(t, 15, span.Before(a, 25), "Before of a")
	expectNth(t, a, 10, 20, true)
	expectNth(t, a, 9, 9, true)
	expectNth(t, a, 19, 29, true)
	expectNth(t, a, 20, 0, false)
	all := spans(0, api.MaxDay)
	expectNumber(t, api.MaxDay, span.Days(all), "Days of all")
	expectNth(t, all, 0, 0, true)
	expectNth(t, all, api.MaxDay-1, api.MaxDay-1, true)
	expectNumber(t, 32768, span.Days(every()), "Days of every other day")
	expectNth(t, every(), 32767, api.MaxDay-2, true)
	expectNumber(t, 0, span.Days(nil), "Days of none")
	expectNth(t, nil, 0, 0, false)
}

// P4.3: Within of all pairs of sets of seven days.
func TestShortWithin(t *testing.T) {
	for _, first := range firsts() {
		for a := range 128 {
			for b := range 128 {
				if got := span.Within(picked(first, a), picked(first, b)); got != (a&^b == 0) {
					t.Errorf("Within(%v, %v) = %v", picked(first, a), picked(first, b), got)
				}
			}
		}
	}
}

// P4.3: Within of sets of all sorts.
func TestWithin(t *testing.T) {
	for _, a := range sets() {
		hasA := daysOf(a)
		for _, b := range sets() {
			hasB := daysOf(b)
			want := true
			for day := range hasA {
				want = want && (hasB[day] || !hasA[day])
			}
			if got := span.Within(a, b); got != want {
				t.Errorf("Within(%v, %v) = %v", short(a), short(b), got)
			}
		}
	}
}

// P4.3: slices that are not sets have no days, and are not within a set, nor is a set within them.
func TestInvalidDays(t *testing.T) {
	before, after := noDays()
	for _, bad := range notSets() {
		for _, n := range append(append([]int{0, 1, 2, 5, 6, 10, 25, api.MaxDay - 2, api.MaxDay - 1}, before...), after...) {
			if span.Has(bad, n) {
				t.Errorf("Has(%v, %d)", short(bad), n)
			}
			expectNumber(t, 0, span.Before(bad, n), "Before", short(bad), n)
			expectNth(t, bad, n, 0, false)
		}
		expectNumber(t, 0, span.Days(bad), "Days", short(bad))
		for _, good := range [][]api.Span{nil, spans(0, 10), spans(0, api.MaxDay), bad} {
			if span.Within(bad, good) || span.Within(good, bad) {
				t.Errorf("Within holds for %v and %v", short(bad), good)
			}
		}
	}
}
