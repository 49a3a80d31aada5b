package timeline_test

import (
	"math"
	"math/rand"
	"slices"
	"testing"

	"annuitant/api"
	"annuitant/frac"
	"annuitant/whole"
)

// kinds returns the six kinds of values.
func kinds() []uint8 {
	return []uint8{api.Truth, api.Number, api.Money, api.Date, api.Days, api.Months}
}

// of returns the fraction with a text.
func of(text string) api.Frac {
	a, e := frac.Parse(text)
	if e != api.OK {
		panic(text)
	}
	return a
}

func number(text string) api.Value { return api.Value{Kind: api.Number, F: of(text)} }

func money(text string) api.Value { return api.Value{Kind: api.Money, F: of(text)} }

// some returns values of a kind, no two of which are the same.
func some(kind uint8) []api.Value {
	var list []api.Value
	switch kind {
	case api.Number, api.Money:
		for _, text := range []string{"1/2", "1", "0", "-1/2", "2", "70000/70001", "-1", "1/3"} {
			list = append(list, api.Value{Kind: kind, F: of(text)})
		}
	case api.Truth:
		list = []api.Value{{Kind: kind}, {Kind: kind, I: 1}}
	case api.Date:
		list = []api.Value{{Kind: kind, I: 7}, {Kind: kind}, {Kind: kind, I: api.MaxDay - 1}}
	default:
		list = []api.Value{{Kind: kind, I: 7}, {Kind: kind}, {Kind: kind, I: -7}, {Kind: kind, I: 1 << 20}, {Kind: kind, I: -1 << 20}}
	}
	return list
}

// step returns a step.
func step(from, to int, v api.Value) api.Step { return api.Step{From: from, To: to, V: v} }

// example returns the timeline of the chapter's examples.
func example() []api.Step {
	return []api.Step{step(0, 10, number("1/2")), step(10, 30, number("1"))}
}

// line is the oracle of a timeline: for some days from a first one on, the number of the value in a list, counted from 1; or 0 if there is none.
type line struct {
	first  int
	states []int
	list   []api.Value
}

// steps returns the timeline of a line.
func (l line) steps() []api.Step {
	var out []api.Step
	for i := 0; i < len(l.states); i++ {
		from := i
		for i+1 < len(l.states) && l.states[i+1] == l.states[from] {
			i++
		}
		if l.states[from] > 0 {
			out = append(out, step(l.first+from, l.first+i+1, l.list[l.states[from]-1]))
		}
	}
	return out
}

// kept returns the line that has its values only on some days.
func (l line) kept(is func(day int) bool) line {
	states := slices.Clone(l.states)
	for i := range states {
		if !is(l.first + i) {
			states[i] = 0
		}
	}
	return line{l.first, states, l.list}
}

// joined returns the line that has the values of m, and elsewhere those of l; both have the same days.
func (l line) joined(m line) line {
	states := slices.Clone(m.states)
	for i, state := range states {
		if state == 0 {
			states[i] = l.states[i]
		}
	}
	return line{l.first, states, l.list}
}

// set returns the set of those days of a line that are wanted.
func (l line) set(wanted func(i int) bool) []api.Span {
	var out []api.Span
	for i := range l.states {
		switch day := l.first + i; {
		case !wanted(i):
		case len(out) > 0 && out[len(out)-1].To == day:
			out[len(out)-1].To++
		default:
			out = append(out, api.Span{From: day, To: day + 1})
		}
	}
	return out
}

// value returns the value of the day number i of a line, and whether there is one.
func (l line) value(i int) (api.Value, bool) {
	if i < 0 || i >= len(l.states) || l.states[i] == 0 {
		return api.Value{}, false
	}
	return l.list[l.states[i]-1], true
}

// changes returns the days at which a line changes, counting days outside of it as those without a value.
func (l line) changes() []int {
	var out []int
	before := 0
	for i, state := range append(slices.Clone(l.states), 0) {
		if state != before {
			out = append(out, l.first+i)
		}
		before = state
	}
	return out
}

// lines returns all lines of n days from a first one on that have two values.
func lines(first, n int, list []api.Value) []line {
	var out []line
	total := 1
	for range n {
		total *= 3
	}
	for code := range total {
		states := make([]int, n)
		for i := range states {
			states[i] = code % 3
			code /= 3
		}
		out = append(out, line{first, states, list})
	}
	return out
}

// random returns a line of all days, with steps and gaps of random lengths.
func random(r *rand.Rand, list []api.Value) line {
	l := line{0, make([]int, api.MaxDay), list}
	long := 1 << (1 + r.Intn(15))
	for i := 0; i < api.MaxDay; {
		state := r.Intn(len(list) + 1)
		for range 1 + r.Intn(long) {
			if i < api.MaxDay {
				l.states[i] = state
				i++
			}
		}
	}
	return l
}

// firsts returns the days at which short lines of n days are tried.
func firsts(n int) []int { return []int{0, 1, 1000, api.MaxDay - n} }

// longest returns a timeline with as many steps as there are days.
func longest(kind uint8) []api.Step {
	l := line{0, make([]int, api.MaxDay), some(kind)}
	for i := range l.states {
		l.states[i] = 1 + i%2
	}
	return l.steps()
}

// notSpans returns pairs of days that are no spans, nor empty ones.
func notSpans() [][2]int {
	return [][2]int{
		{1, 0}, {30, 29}, {api.MaxDay, 0}, {api.MaxDay, api.MaxDay - 1}, {15, 5},
		{-1, 0}, {-1, 5}, {-1, -1}, {-5, -3}, {-1, api.MaxDay}, {0, -1}, {math.MinInt64, 5}, {5, math.MinInt64}, {math.MinInt64, math.MinInt64},
		{0, api.MaxDay + 1}, {5, api.MaxDay + 1}, {api.MaxDay, api.MaxDay + 1}, {api.MaxDay + 1, api.MaxDay + 1}, {api.MaxDay + 1, 5},
		{5, math.MaxInt64}, {math.MaxInt64, math.MaxInt64}, {math.MaxInt64, 5}, {math.MinInt64, math.MaxInt64}, {math.MaxInt64, math.MinInt64},
		{0, 1 << 32}, {1 << 32, 1<<32 + 5}, {-1 << 32, 5}, {5, 1<<32 + 10},
	}
}

// invalidFracs returns fractions that are not valid.
func invalidFracs() []api.Frac {
	w := whole.FromInt
	long := make([]uint16, api.MaxLimbs+1)
	long[api.MaxLimbs] = 1
	return []api.Frac{
		{}, {N: w(1)}, {D: api.Whole{Limbs: []uint16{0}}}, {N: w(1), D: w(-1)}, {N: w(1), D: w(-2)}, {N: w(0), D: w(2)}, {N: w(2), D: w(4)},
		{N: api.Whole{Neg: true}, D: w(1)}, {N: api.Whole{Limbs: []uint16{3, 0}}, D: w(1)}, {N: w(1), D: api.Whole{Limbs: []uint16{3, 0}}},
		{N: api.Whole{Limbs: long}, D: w(1)}, {N: w(1), D: api.Whole{Limbs: long}},
	}
}

// invalidValues returns values that are not valid, no two of which are the same.
func invalidValues() []api.Value {
	var list []api.Value
	for _, kind := range []uint8{0, 7, 8, 64, 128, 255} {
		list = append(list, api.Value{Kind: kind}, api.Value{Kind: kind, I: 1}, api.Value{Kind: kind, F: of("1")})
	}
	for _, kind := range []uint8{api.Number, api.Money} {
		for _, f := range invalidFracs() {
			list = append(list, api.Value{Kind: kind, F: f})
		}
		for _, i := range []int{1, -1, 2, 1 << 32, math.MinInt64} {
			list = append(list, api.Value{Kind: kind, F: of("0"), I: i}, api.Value{Kind: kind, F: of("1/2"), I: i}, api.Value{Kind: kind, I: i})
		}
	}
	for _, kind := range []uint8{api.Truth, api.Date, api.Days, api.Months} {
		list = append(list, outOfRange(kind)...)
		for _, f := range append(invalidFracs()[1:], of("0"), of("1"), of("-1/2"), api.Frac{N: api.Whole{Neg: true}}, api.Frac{D: api.Whole{Neg: true}}, api.Frac{N: api.Whole{Limbs: []uint16{0}}}) {
			list = append(list, api.Value{Kind: kind, F: f}, api.Value{Kind: kind, F: f, I: 1})
		}
	}
	return list
}

// outOfRange returns values of a kind whose I is out of its range.
func outOfRange(kind uint8) []api.Value {
	bad := []int{1<<20 + 1, -1<<20 - 1, 1 << 21, -1 << 21, 1 << 32, -1 << 32, 1<<32 + 1, math.MaxInt64, math.MinInt64}
	switch kind {
	case api.Truth:
		bad = append(bad, 2, -1, 3, 255, 256, 1<<20)
	case api.Date:
		bad = append(bad, -1, -2, api.MaxDay, api.MaxDay+1, 1<<20, -1<<20)
	}
	var list []api.Value
	for _, i := range bad {
		list = append(list, api.Value{Kind: kind, I: i})
	}
	return list
}

// notTimelines returns slices of steps that are not timelines.
func notTimelines() [][]api.Step {
	x, y := number("1/2"), number("1")
	list := [][]api.Step{
		{step(0, 10, x), step(9, 20, y)}, {step(0, 10, x), step(9, 20, x)}, {step(0, 20, x), step(5, 10, y)}, {step(5, 10, x), step(0, 20, y)}, {step(5, 10, x), step(5, 10, y)},
		{step(10, 20, x), step(0, 10, y)}, {step(20, 30, x), step(0, 10, y)}, {step(20, 30, x), step(0, 10, x)},
		{step(0, 10, x), step(10, 20, x)}, {step(0, 10, x), step(20, 30, y), step(30, 40, y)}, {step(0, 10, x), step(10, 20, y), step(30, 40, y), step(40, 50, y)},
		{step(0, 10, x), step(10, 10, y), step(10, 20, x)}, {step(0, 10, x), step(20, 30, x), step(30, 40, y), step(15, 16, x)},
		{step(0, 10, x), step(10, 20, money("1"))}, {step(0, 10, money("1")), step(20, 30, y)}, {step(0, 10, x), step(20, 30, y), step(40, 50, money("1/2"))},
		{step(0, 10, api.Value{Kind: api.Days, I: 1}), step(20, 30, api.Value{Kind: api.Months, I: 1})}, {step(0, 10, api.Value{Kind: api.Truth}), step(10, 20, x)},
		append(longest(api.Number), step(api.MaxDay-1, api.MaxDay, x)), append(longest(api.Truth), step(api.MaxDay, api.MaxDay, api.Value{Kind: api.Truth})),
	}
	for _, bad := range append(notSpans(), [2]int{0, 0}, [2]int{5, 5}, [2]int{api.MaxDay, api.MaxDay}) {
		s := step(bad[0], bad[1], x)
		list = append(list, []api.Step{s}, []api.Step{step(0, 3, y), s}, []api.Step{s, step(api.MaxDay-3, api.MaxDay, y)})
	}
	for _, bad := range invalidValues() {
		s := step(5, 8, bad)
		list = append(list, []api.Step{s}, []api.Step{step(0, 3, x), s}, []api.Step{s, step(10, 13, x)}, []api.Step{step(0, 3, api.Value{Kind: api.Truth}), s, step(10, 13, api.Value{Kind: api.Truth})})
	}
	return list
}

// equal reports whether two values are equal, not by way of Same.
func equal(a, b api.Value) bool {
	number := func(a, b api.Whole) bool { return a.Neg == b.Neg && slices.Equal(a.Limbs, b.Limbs) }
	return a.Kind == b.Kind && a.I == b.I && number(a.F.N, b.F.N) && number(a.F.D, b.F.D)
}

// equalSteps reports whether slices of steps are equal.
func equalSteps(a, b []api.Step) bool {
	return slices.EqualFunc(a, b, func(a, b api.Step) bool { return a.From == b.From && a.To == b.To && equal(a.V, b.V) })
}

// short returns the beginning of a slice, to be shown.
func short[T any](l []T) []T { return l[:min(len(l), 6)] }

// expect checks that a result is a timeline, without an error.
func expect(t *testing.T, want, got []api.Step, e api.Errno, what ...any) {
	t.Helper()
	if e != api.OK || !equalSteps(got, want) {
		t.Errorf("%v = %v (%d steps), error %d; want %v (%d steps)", what, short(got), len(got), e, short(want), len(want))
	}
}

// expectList checks that a list of days or spans is the result.
func expectList[T comparable](t *testing.T, want, got []T, what ...any) {
	t.Helper()
	if !slices.Equal(want, got) {
		t.Errorf("%v = %v (%d elements); want %v (%d elements)", what, short(got), len(got), short(want), len(want))
	}
}

// expectError checks that a result is ErrArg, and an empty slice.
func expectError[T any](t *testing.T, got []T, e api.Errno, what ...any) {
	t.Helper()
	if e != api.ErrArg || len(got) > 0 {
		t.Errorf("%v = %v, error %d; want error %d", what, short(got), e, api.ErrArg)
	}
}
