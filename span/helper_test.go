package span_test

import (
	"math"
	"math/rand"
	"slices"
	"testing"

	"annuitant/api"
)

// days is the oracle of a set: which days it has.
type days [api.MaxDay]bool

// daysOf returns the days of valid spans in any order.
func daysOf(l []api.Span) *days {
	d := new(days)
	for _, s := range l {
		for day := s.From; day < s.To; day++ {
			d[day] = true
		}
	}
	return d
}

// set returns the set with the days.
func (d *days) set() []api.Span { return setOf(0, api.MaxDay, func(i int) bool { return d[i] }) }

// setOf returns the set of those of n days from a first one on that it has.
func setOf(first, n int, has func(i int) bool) []api.Span {
	var l []api.Span
	for i := 0; i < n; i++ {
		if !has(i) {
			continue
		}
		from := i
		for i < n && has(i) {
			i++
		}
		l = append(l, api.Span{From: first + from, To: first + i})
	}
	return l
}

// picked returns the set of the days from a first one on that the bits of a number pick.
func picked(first, bits int) []api.Span {
	return setOf(first, 16, func(i int) bool { return bits>>i&1 == 1 })
}

// spans returns spans from their bounds: the From of each is followed by its To.
func spans(bounds ...int) []api.Span {
	var l []api.Span
	for i := 0; i < len(bounds); i += 2 {
		l = append(l, api.Span{From: bounds[i], To: bounds[i+1]})
	}
	return l
}

// random returns a set, some of whose gaps and spans are short.
func random(r *rand.Rand) []api.Span {
	var l []api.Span
	long := 1 << (1 + r.Intn(15))
	day := r.Intn(long) - 1
	for {
		from := day + 1 + r.Intn(long)
		day = from + 1 + r.Intn(long)
		if from < 0 || day > api.MaxDay {
			return l
		}
		l = append(l, api.Span{From: from, To: day})
	}
}

// every returns the set of every other day, which has the most spans.
func every() []api.Span {
	return setOf(0, api.MaxDay, func(i int) bool { return i%2 == 0 })
}

// firsts returns the days at which small sets are tried.
func firsts() []int { return []int{0, 1, 1000, api.MaxDay - 7} }

// notSpans returns spans that are not valid.
func notSpans() []api.Span {
	return spans(
		6, 5, 1, 0, api.MaxDay, 0, api.MaxDay, api.MaxDay-1,
		-1, 5, -1, -1, -1, 0, -5, -3, -1, api.MaxDay, 0, -1, math.MinInt64, 5, math.MinInt64, math.MinInt64, 5, math.MinInt64,
		5, api.MaxDay+1, api.MaxDay, api.MaxDay+1, api.MaxDay+1, api.MaxDay+1, api.MaxDay+1, 5, 5, math.MaxInt64, math.MaxInt64, math.MaxInt64, math.MaxInt64, 5,
		math.MinInt64, math.MaxInt64, math.MaxInt64, math.MinInt64, 1<<32, 1<<32+5, 0, 1<<32, -1<<32, 5, 1<<32+5, 1<<32+2,
	)
}

// notSets returns slices of spans that are not sets.
func notSets() [][]api.Span {
	list := [][]api.Span{
		spans(5, 5), spans(0, 0), spans(api.MaxDay, api.MaxDay),
		spans(0, 10, 10, 20), spans(0, 10, 9, 20), spans(0, 20, 5, 10), spans(5, 10, 0, 20), spans(5, 10, 5, 10), spans(5, 10, 5, 20), spans(5, 20, 10, 20), spans(20, 30, 0, 10), spans(10, 20, 0, 10),
		spans(0, 0, 5, 10), spans(0, 10, 15, 15, 20, 30), spans(0, 10, api.MaxDay, api.MaxDay), spans(0, 10, 10, 10), spans(5, 5, 5, 10),
		spans(0, 10, 20, 30, 30, 40), spans(0, 10, 20, 30, 5, 6), spans(0, 10, 20, 30, 15, 16), spans(0, 10, 40, 50, 20, 30), spans(0, 1, 1, 2, 3, 4),
		append(every(), api.Span{From: api.MaxDay - 1, To: api.MaxDay}), append(every(), api.Span{From: api.MaxDay, To: api.MaxDay}), append(every(), every()...),
	}
	for _, s := range notSpans() {
		list = append(list, []api.Span{s}, []api.Span{{From: 0, To: 3}, s}, []api.Span{s, {From: api.MaxDay - 3, To: api.MaxDay}})
	}
	return list
}

// sets returns sets of all sorts.
func sets() [][]api.Span {
	list := [][]api.Span{
		nil, {}, spans(0, 1), spans(0, api.MaxDay), spans(api.MaxDay-1, api.MaxDay), spans(0, 1, api.MaxDay-1, api.MaxDay), spans(0, 10, 20, 30), spans(5, 25), spans(0, 1, 2, 3),
		spans(1, api.MaxDay), spans(0, api.MaxDay-1), every(), setOf(1, api.MaxDay-1, func(i int) bool { return i%2 == 0 }),
	}
	r := rand.New(rand.NewSource(4))
	for range 20 {
		list = append(list, random(r))
	}
	return list
}

// short returns the beginning of a slice of spans, to be shown.
func short(l []api.Span) []api.Span { return l[:min(len(l), 8)] }

// expect checks that a result is a set, without an error.
func expect(t *testing.T, want, got []api.Span, e api.Errno, what ...any) {
	t.Helper()
	if e != api.OK || !slices.Equal(got, want) {
		t.Errorf("%v = %v (%d spans), error %d; want %v (%d spans)", what, short(got), len(got), e, short(want), len(want))
	}
}

// expectError checks that a result is ErrArg, and nothing else.
func expectError(t *testing.T, got []api.Span, e api.Errno, what ...any) {
	t.Helper()
	if e != api.ErrArg || len(got) > 0 {
		t.Errorf("%v = %v (%d spans), error %d; want error %d", what, short(got), len(got), e, api.ErrArg)
	}
}
