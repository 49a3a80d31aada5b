package service_test

import (
	"math"
	"math/big"
	"math/rand"
	"slices"
	"testing"

	"annuitant/api"
	"annuitant/frac"
	"annuitant/whole"
)

// of returns the fraction with a text.
func of(text string) api.Frac {
	a, e := frac.Parse(text)
	if e != api.OK {
		panic(text)
	}
	return a
}

// rat returns the library's fraction that a fraction is.
func rat(a api.Frac) *big.Rat {
	text, e := frac.Text(a)
	r, ok := new(big.Rat).SetString(text)
	if e != api.OK || !ok {
		panic("not a fraction")
	}
	return r
}

// step returns a step with a Number.
func step(from, to int, f api.Frac) api.Step {
	return api.Step{From: from, To: to, V: api.Value{Kind: api.Number, F: f}}
}

// example returns the record of the chapter's examples.
func example() []api.Step {
	return []api.Step{step(0, 100, of("1")), step(100, 150, of("1/2")), step(160, 200, of("0")), step(200, 300, of("1/4"))}
}

// parts returns part-time fractions, no two of which are equal; the first one is 0.
func parts() []api.Frac {
	return []api.Frac{of("0"), of("1/2"), of("1"), of("69999/70000"), of("1/70001"), of("3/7")}
}

// line is the oracle of a record: for some days from a first one on, the number of the fraction in parts, counted from 1; or 0 if there is none.
type line struct {
	first  int
	states []int
}

// steps returns the record of a line.
func (l line) steps() []api.Step {
	var out []api.Step
	list := parts()
	for i := 0; i < len(l.states); i++ {
		from := i
		for i+1 < len(l.states) && l.states[i+1] == l.states[from] {
			i++
		}
		if l.states[from] > 0 {
			out = append(out, step(l.first+from, l.first+i+1, list[l.states[from]-1]))
		}
	}
	return out
}

// years adds the fractions of the days from from to to - 1, in years.
func (l line) years(from, to int) *big.Rat {
	counts := make([]int64, len(parts())+1)
	for i, state := range l.states {
		if day := l.first + i; from <= day && day < to {
			counts[state]++
		}
	}
	sum := new(big.Rat)
	for i, f := range parts() {
		sum.Add(sum, new(big.Rat).Mul(rat(f), new(big.Rat).SetInt64(counts[i+1])))
	}
	return sum.Quo(sum, big.NewRat(1461, 4))
}

// worked returns the days from from to to - 1 that are worked.
func (l line) worked(from, to int) []int {
	var out []int
	for i, state := range l.states {
		if day := l.first + i; from <= day && day < to && state > 1 {
			out = append(out, day)
		}
	}
	return out
}

// set returns the set of increasing days.
func set(days []int) []api.Span {
	var out []api.Span
	for _, day := range days {
		if last := len(out) - 1; last >= 0 && out[last].To == day {
			out[last].To++
		} else {
			out = append(out, api.Span{From: day, To: day + 1})
		}
	}
	return out
}

// gaps returns the days between neighbours of increasing days, where they are at most some number.
func gaps(days []int, most int) []int {
	var out []int
	for i, day := range days {
		if i > 0 && day-days[i-1]-1 <= most {
			for d := days[i-1] + 1; d < day; d++ {
				out = append(out, d)
			}
		}
	}
	return out
}

// together returns the days of two lists, in increasing order.
func together(a, b []int) []int {
	all := append(slices.Clone(a), b...)
	slices.Sort(all)
	return all
}

// lines returns all lines of n days from a first one on whose days have no fraction, or one of the first three.
func lines(first, n int) []line {
	var out []line
	for code := range 1 << (2 * n) {
		states := make([]int, n)
		for i := range states {
			states[i] = code >> (2 * i) & 3
		}
		out = append(out, line{first, states})
	}
	return out
}

// random returns a line of all days, with steps and gaps of random lengths.
func random(r *rand.Rand) line {
	l := line{0, make([]int, 0, api.MaxDay)}
	long := 1 << (1 + r.Intn(15))
	for len(l.states) < api.MaxDay {
		state := r.Intn(len(parts()) + 1)
		for range min(1+r.Intn(long), api.MaxDay-len(l.states)) {
			l.states = append(l.states, state)
		}
	}
	return l
}

// firsts returns the days at which short lines of n days are tried.
func firsts(n int) []int { return []int{0, 1, 1000, api.MaxDay - n} }

// bounds returns the days at which short lines are cut.
func bounds(first, n int) []int {
	out := []int{0, api.MaxDay}
	for day := first - 1; day <= first+n+1; day++ {
		out = append(out, min(max(day, 0), api.MaxDay))
	}
	slices.Sort(out)
	return slices.Compact(out)
}

// notBounds are numbers that are no bounds of the days asked for.
func notBounds() []int {
	return []int{-1, -2, api.MaxDay + 1, api.MaxDay + 2, -api.MaxDay, 1 << 32, -1 << 32, 1<<32 + 5, math.MinInt64, math.MaxInt64}
}

// notFracs returns fractions that are not valid.
func notFracs() []api.Frac {
	w := whole.FromInt
	long := api.Whole{Limbs: append(make([]uint16, api.MaxLimbs), 1)}
	return []api.Frac{
		{}, {N: w(1)}, {D: w(2)}, {N: w(1), D: w(-2)}, {N: w(-1), D: w(-2)}, {N: w(2), D: w(4)}, {N: w(0), D: w(-1)}, {N: w(1), D: w(0)},
		{N: api.Whole{Neg: true}, D: w(1)}, {N: api.Whole{Limbs: []uint16{1, 0}}, D: w(2)}, {N: w(1), D: api.Whole{Limbs: []uint16{2, 0}}},
		{N: w(1), D: long}, {N: long, D: w(1)},
	}
}

// notParts returns valid fractions that are not from 0 to 1.
func notParts() []api.Frac {
	return []api.Frac{
		of("-1"), of("2"), of("-1/2"), of("3/2"), of("70001/70000"), of("-1/70000"), of("65536"), of("-65536"), of("65537/65536"),
		{N: power(api.MaxLimbs - 1), D: whole.FromInt(1)}, {N: negative(power(api.MaxLimbs - 1)), D: whole.FromInt(1)},
		{N: whole.FromInt(-1), D: power(api.MaxLimbs - 1)}, {N: next(power(api.MaxLimbs - 1)), D: power(api.MaxLimbs - 1)},
	}
}

// power returns 65536 to the power n.
func power(n int) api.Whole { return api.Whole{Limbs: append(make([]uint16, n), 1)} }

// next returns a + 1.
func next(a api.Whole) api.Whole {
	b, _ := whole.Add(a, whole.FromInt(1))
	return b
}

func negative(a api.Whole) api.Whole { return api.Whole{Neg: true, Limbs: a.Limbs} }

// notRecords returns slices of steps that are not service records.
func notRecords() [][]api.Step {
	half, one := of("1/2"), of("1")
	list := [][]api.Step{
		{step(10, 20, one), step(0, 10, half)}, {step(0, 10, one), step(9, 20, half)}, {step(0, 10, one), step(10, 20, one)},
		{step(0, 0, one)}, {step(5, 4, one)}, {step(-1, 5, one)}, {step(5, api.MaxDay+1, one)}, {step(0, 10, one), step(10, 10, half)},
		{step(math.MinInt64, 5, one)}, {step(5, math.MaxInt64, one)}, {step(0, 10, half), step(20, 30, one), step(30, 40, one)},
	}
	for _, v := range []api.Value{{}, {Kind: api.Money, F: half}, {Kind: api.Money, F: of("0")}, {Kind: api.Money, F: one}, {Kind: api.Truth}, {Kind: api.Truth, I: 1},
		{Kind: api.Date, I: 1}, {Kind: api.Days}, {Kind: api.Days, I: 1}, {Kind: api.Months, I: 1}, {Kind: 7, F: half}, {Kind: api.Number, F: half, I: 1}, {Kind: api.Number, I: 1}} {
		list = append(list, []api.Step{{From: 0, To: 10, V: v}}, []api.Step{{From: 0, To: 10, V: v}, step(20, 30, half)}, []api.Step{step(0, 5, half), {From: 7, To: 10, V: v}})
	}
	for _, f := range append(notFracs(), notParts()...) {
		list = append(list, []api.Step{step(0, 10, f)}, []api.Step{step(0, 10, f), step(20, 30, half)}, []api.Step{step(0, 10, half), step(20, 30, f)}, []api.Step{step(0, 10, half), step(20, 30, f), step(30, 40, one)})
	}
	return list
}

// same reports whether two fractions have the same limbs, not by way of frac.
func same(a, b api.Frac) bool {
	number := func(a, b api.Whole) bool { return a.Neg == b.Neg && slices.Equal(a.Limbs, b.Limbs) }
	return number(a.N, b.N) && number(a.D, b.D)
}

// expectYears checks that a result is a fraction of the library, without an error.
func expectYears(t *testing.T, want *big.Rat, got api.Frac, e api.Errno, what ...any) {
	t.Helper()
	if e != api.OK || rat(got).Cmp(want) != 0 {
		t.Errorf("%v = %v, error %d; want %v", what, got, e, want)
	}
}

// expectNoYears checks that a result is an error, and nothing else.
func expectNoYears(t *testing.T, want api.Errno, got api.Frac, e api.Errno, what ...any) {
	t.Helper()
	if e != want || !same(got, api.Frac{}) {
		t.Errorf("%v = %v, error %d; want error %d", what, got, e, want)
	}
}

// short returns the beginning of a slice, to be shown.
func short[T any](l []T) []T { return l[:min(len(l), 6)] }

// expectSet checks that a result is a set, without an error.
func expectSet(t *testing.T, want, got []api.Span, e api.Errno, what ...any) {
	t.Helper()
	if e != api.OK || !slices.Equal(got, want) {
		t.Errorf("%v = %v (%d spans), error %d; want %v (%d spans)", what, short(got), len(got), e, short(want), len(want))
	}
}

// expectNoSet checks that a result is ErrArg, and nothing else.
func expectNoSet(t *testing.T, got []api.Span, e api.Errno, what ...any) {
	t.Helper()
	if e != api.ErrArg || len(got) > 0 {
		t.Errorf("%v = %v, error %d; want error %d", what, short(got), e, api.ErrArg)
	}
}
