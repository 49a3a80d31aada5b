package span_test

import (
	"math"
	"math/rand"
	"slices"
	"testing"

	"annuitant/api"
	"annuitant/span"
)

// P4.1: sets are valid, and nothing else is.
func TestValid(t *testing.T) {
	for i, l := range sets() {
		if !span.Valid(l) {
			t.Errorf("set %d, %v, is called invalid", i, short(l))
		}
	}
	for i, l := range notSets() {
		if span.Valid(l) {
			t.Errorf("slice %d, %v, is called a set", i, short(l))
		}
	}
}

// P4.1: of all slices of up to three short spans, those are sets that are what their days make.
func TestValidIsUnique(t *testing.T) {
	for _, first := range firsts() {
		for _, l := range slicesOfSpans(first, -1, 3) {
			valid := !slices.ContainsFunc(l, func(s api.Span) bool { return s.From > s.To || s.From < 0 })
			want := valid && slices.Equal(l, daysOf(l).set())
			if got := span.Valid(l); got != want {
				t.Errorf("Valid(%v) = %v", l, got)
			}
		}
	}
}

// slicesOfSpans returns all slices of up to two spans between low and high days after a first one, and some of three; some spans are not valid.
func slicesOfSpans(first, low, high int) [][]api.Span {
	var all []api.Span
	for from := low; from <= high; from++ {
		for to := low; to <= high; to++ {
			all = append(all, api.Span{From: first + from, To: first + to})
		}
	}
	list := [][]api.Span{nil}
	for i, a := range all {
		list = append(list, []api.Span{a})
		for j, b := range all {
			list = append(list, []api.Span{a, b})
			if (i+j)%5 == 0 {
				list = append(list, []api.Span{a, b, all[(7*i+3*j)%len(all)]})
			}
		}
	}
	return list
}

// P4.1: Make of slices of up to three short spans, empty, overlapping, in any order.
func TestMakeShort(t *testing.T) {
	for _, first := range firsts() {
		for _, l := range slicesOfSpans(first, 0, 5) {
			got, e := span.Make(l)
			if slices.ContainsFunc(l, func(s api.Span) bool { return s.From > s.To }) {
				expectError(t, got, e, "Make", l)
			} else {
				expect(t, daysOf(l).set(), got, e, "Make", l)
			}
		}
	}
}

// P4.1: Make of the example, of nothing, and of spans at the ends.
func TestMakeExamples(t *testing.T) {
	for _, c := range []struct{ l, want []api.Span }{
		{spans(5, 8, 3, 5, 9, 9), spans(3, 8)},
		{nil, nil}, {[]api.Span{}, nil}, {spans(0, 0), nil}, {spans(api.MaxDay, api.MaxDay), nil}, {spans(7, 7, 7, 7, 0, 0), nil},
		{spans(0, api.MaxDay), spans(0, api.MaxDay)}, {spans(0, api.MaxDay, 5, 10), spans(0, api.MaxDay)}, {spans(20, 30, 0, api.MaxDay, 5, 5), spans(0, api.MaxDay)},
		{spans(0, 10, 10, 20), spans(0, 20)}, {spans(10, 20, 0, 10), spans(0, 20)}, {spans(0, 10, 10, 10, 11, 20), spans(0, 10, 11, 20)},
		{spans(api.MaxDay-1, api.MaxDay, 0, 1), spans(0, 1, api.MaxDay-1, api.MaxDay)}, {spans(5, 6, 5, 6, 5, 6), spans(5, 6)},
		{spans(0, 100, 50, 60, 100, 101), spans(0, 101)}, {spans(1, 5, 2, 3, 4, 9, 20, 21, 10, 11), spans(1, 9, 10, 11, 20, 21)},
	} {
		got, e := span.Make(c.l)
		expect(t, c.want, got, e, "Make", c.l)
	}
	for _, l := range sets() {
		got, e := span.Make(l)
		expect(t, l, got, e, "Make of the set", short(l))
	}
}

// P4.1: Make of many spans, whose number is also greater than that of a set's.
func TestMakeMany(t *testing.T) {
	r := rand.New(rand.NewSource(1))
	for _, long := range []int{1, 2, 30, 2000} {
		for _, n := range []int{4, 5, 6, 7, 31, 1000, 100000} {
			l := make([]api.Span, n)
			for i := range l {
				l[i].From = r.Intn(api.MaxDay + 1)
				l[i].To = min(l[i].From+r.Intn(long+1), api.MaxDay)
			}
			got, e := span.Make(l)
			expect(t, daysOf(l).set(), got, e, "Make of many", n, long)
		}
	}
	shuffled := every()
	r.Shuffle(len(shuffled), func(i, j int) { shuffled[i], shuffled[j] = shuffled[j], shuffled[i] })
	got, e := span.Make(shuffled)
	expect(t, every(), got, e, "Make of every other day, shuffled")
}

// P4.1: Make with a span that is not valid, at each place.
func TestMakeInvalid(t *testing.T) {
	for _, s := range notSpans() {
		for n := range 6 {
			for place := range n + 1 {
				l := slices.Insert(spans(0, 10, 20, 30, 5, 5, 30, 40, 7, 9)[:n], place, s)
				got, e := span.Make(l)
				expectError(t, got, e, "Make", l)
			}
		}
	}
}

// operation is a function of two sets.
type operation struct {
	name   string
	of     func(a, b []api.Span) ([]api.Span, api.Errno)
	wanted func(a, b bool) bool
}

// operations returns the functions of two sets, with their definitions.
func operations() []operation {
	return []operation{
		{"Union", span.Union, func(a, b bool) bool { return a || b }},
		{"Meet", span.Meet, func(a, b bool) bool { return a && b }},
		{"Minus", span.Minus, func(a, b bool) bool { return a && !b }},
	}
}

// P4.2: Union, Meet and Minus of all pairs of sets of seven days.
func TestShortOperations(t *testing.T) {
	for _, o := range operations() {
		for _, first := range firsts() {
			for a := range 128 {
				for b := range 128 {
					want := setOf(first, 7, func(i int) bool { return o.wanted(a>>i&1 == 1, b>>i&1 == 1) })
					got, e := o.of(picked(first, a), picked(first, b))
					expect(t, want, got, e, o.name, picked(first, a), picked(first, b))
				}
			}
		}
	}
}

// P4.2: Union, Meet and Minus of sets of all sorts.
func TestOperations(t *testing.T) {
	for _, o := range operations() {
		for _, a := range sets() {
			hasA := daysOf(a)
			for _, b := range sets() {
				hasB := daysOf(b)
				want := setOf(0, api.MaxDay, func(day int) bool { return o.wanted(hasA[day], hasB[day]) })
				got, e := o.of(a, b)
				expect(t, want, got, e, o.name, short(a), short(b))
			}
		}
	}
}

// P4.2: the examples.
func TestExamples(t *testing.T) {
	a, b := spans(0, 10, 20, 30), spans(5, 25)
	got, e := span.Union(a, b)
	expect(t, spans(0, 30), got, e, "Union")
	got, e = span.Meet(a, b)
	expect(t, spans(5, 10, 20, 25), got, e, "Meet")
	got, e = span.Minus(a, b)
	expect(t, spans(0, 5, 25, 30), got, e, "Minus")
	got, e = span.Bridge(a, 10)
	expect(t, spans(0, 30), got, e, "Bridge")
	got, e = span.Bridge(a, 9)
	expect(t, a, got, e, "Bridge")
}

// P4.2: arguments that are not sets, at each place.
func TestInvalidOperations(t *testing.T) {
	for _, bad := range notSets() {
		for _, o := range operations() {
			for _, good := range [][]api.Span{nil, spans(0, 10, 20, 30), spans(0, api.MaxDay), bad} {
				got, e := o.of(bad, good)
				expectError(t, got, e, o.name, short(bad), good)
				got, e = o.of(good, bad)
				expectError(t, got, e, o.name, good, short(bad))
			}
		}
		for _, days := range []int{0, 1, api.MaxDay, math.MaxInt64, -1, math.MinInt64} {
			got, e := span.Bridge(bad, days)
			expectError(t, got, e, "Bridge", short(bad), days)
		}
	}
}

// P4.2: Bridge with numbers of days that are negative.
func TestBridgeNegative(t *testing.T) {
	for _, l := range sets() {
		for _, days := range []int{-1, -2, -api.MaxDay, -1 << 32, math.MinInt64, math.MinInt64 + 1} {
			got, e := span.Bridge(l, days)
			expectError(t, got, e, "Bridge", short(l), days)
		}
	}
}

// bridged returns the set with the days between two of its days that are followed by at most n days before the next one.
func bridged(l []api.Span, n int) []api.Span {
	has := daysOf(l)
	last := -1 // the last day of the set so far
	for day := range has {
		if !has[day] {
			continue
		}
		if last >= 0 && day-last-1 <= n {
			for between := last + 1; between < day; between++ {
				has[between] = true
			}
		}
		last = day
	}
	return has.set()
}

// P4.2: Bridge of all sets of eleven days, and of sets of all sorts.
func TestBridge(t *testing.T) {
	for bits := range 1 << 11 {
		for days := range 11 {
			low, e := span.Bridge(picked(0, bits), days)
			high, f := span.Bridge(picked(api.MaxDay-11, bits), days)
			want := shortBridge(bits, days)
			expect(t, picked(0, want), low, e, "Bridge", picked(0, bits), days)
			expect(t, picked(api.MaxDay-11, want), high, f, "Bridge", picked(api.MaxDay-11, bits), days)
		}
	}
	for _, l := range sets() {
		for _, days := range []int{0, 1, 2, 5, 9, 10, 100, 10000, api.MaxDay - 3, api.MaxDay - 2, api.MaxDay - 1, api.MaxDay, 1 << 32, math.MaxInt64} {
			got, e := span.Bridge(l, days)
			expect(t, bridged(l, days), got, e, "Bridge", short(l), days)
		}
	}
}

// shortBridge does what bridged does, for a set of eleven days that bits pick.
func shortBridge(bits, days int) int {
	for from := range 11 {
		for to := from + 2; to < 11; to++ {
			gap := (1<<(to-from-1) - 1) << (from + 1)
			ends := 1<<from | 1<<to
			if to-from-1 <= days && bits&(gap|ends) == ends {
				bits |= gap
			}
		}
	}
	return bits
}
