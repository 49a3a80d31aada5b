package salary_test

import (
	"math"
	"math/big"
	"math/rand"
	"slices"
	"testing"
	"time"

	"annuitant/api"
	"annuitant/frac"
	"annuitant/whole"
)

// lastMonth is the last month that begins on a date; it is not complete.
const lastMonth = 2153

// of returns the fraction with a text.
func of(text string) api.Frac {
	a, e := frac.Parse(text)
	if e != api.OK {
		panic(text)
	}
	return a
}

// rat returns the library's fraction that a fraction is.
func rat(a api.Frac) *big.Rat {
	text, e := frac.Text(a)
	r, ok := new(big.Rat).SetString(text)
	if e != api.OK || !ok {
		panic("not a fraction")
	}
	return r
}

// paid returns a step with an amount of money.
func paid(from, to int, f api.Frac) api.Step {
	return api.Step{From: from, To: to, V: api.Value{Kind: api.Money, F: f}}
}

// example returns the record of the chapter's examples.
func example() []api.Step {
	return []api.Step{paid(0, 59, of("100")), paid(59, 90, of("160")), paid(90, 120, of("130")), paid(125, 200, of("900"))}
}

// first returns the first day of a month by the library's calendar; also of months that have no dates.
func first(month int) int {
	days := time.Date(1900, time.Month(1+month), 1, 0, 0, 0, 0, time.UTC).Sub(time.Date(1900, 1, 1, 0, 0, 0, 0, time.UTC))
	return int(days / (24 * time.Hour))
}

// amounts returns amounts of pay, no two of which are equal.
func amounts() []api.Frac {
	return []api.Frac{of("100"), of("160"), of("0"), of("-7"), of("200/3"), of("69999/70000"), of("12345678901234567890")}
}

// line is the oracle of a record: for some days from a first one on, the number of the amount in amounts, counted from 1; or 0 if there is none.
type line struct {
	first  int
	states []int
}

// steps returns the record of a line.
func (l line) steps() []api.Step {
	var out []api.Step
	list := amounts()
	for i := 0; i < len(l.states); i++ {
		from := i
		for i+1 < len(l.states) && l.states[i+1] == l.states[from] {
			i++
		}
		if l.states[from] > 0 {
			out = append(out, paid(l.first+from, l.first+i+1, list[l.states[from]-1]))
		}
	}
	return out
}

// state returns the state of a day.
func (l line) state(day int) int {
	if day < l.first || day >= l.first+len(l.states) {
		return 0
	}
	return l.states[day-l.first]
}

// tally counts, for each state, the days before a day that have it.
type tally struct {
	days  [][]int
	begin []int      // the first days of months
	rats  []*big.Rat // the amounts
}

func (l line) tally() tally {
	counts := make([]int, len(amounts())+1)
	y := tally{days: [][]int{slices.Clone(counts)}}
	for day := range api.MaxDay {
		counts[l.state(day)]++
		y.days = append(y.days, slices.Clone(counts))
	}
	for month := range lastMonth + 1 {
		y.begin = append(y.begin, first(month))
	}
	for _, f := range amounts() {
		y.rats = append(y.rats, rat(f))
	}
	return y
}

// average returns the average of the days from from to to - 1; nil if there are none, or they are not covered.
func (y tally) average(from, to int) *big.Rat {
	if to <= from || y.days[to][0] > y.days[from][0] {
		return nil
	}
	sum := new(big.Rat)
	for i, f := range y.rats {
		if n := y.days[to][i+1] - y.days[from][i+1]; n > 0 {
			sum.Add(sum, new(big.Rat).Mul(f, new(big.Rat).SetInt64(int64(n))))
		}
	}
	return sum.Quo(sum, big.NewRat(int64(to-from), 1))
}

// windows returns the months with which possible windows begin.
func (y tally) windows(from, to, n int) []int {
	var out []int
	for month := 0; month+n <= lastMonth; month++ {
		a, b := y.begin[month], y.begin[month+n]
		if from <= a && b <= to && y.days[b][0] == y.days[a][0] {
			out = append(out, month)
		}
	}
	return out
}

// best returns the month and the average of the best window; no average if no window is possible.
func (y tally) best(from, to, n int) (int, *big.Rat) {
	month, best := 0, (*big.Rat)(nil)
	for _, m := range y.windows(from, to, n) {
		if a := y.average(y.begin[m], y.begin[m+n]); best == nil || a.Cmp(best) > 0 {
			month, best = m, a
		}
	}
	return month, best
}

// random returns a line of all days, with steps of random lengths, some of them gaps.
func random(r *rand.Rand) line {
	l := line{0, make([]int, 0, api.MaxDay)}
	long := 1 << (1 + r.Intn(12))
	gaps := 1 + r.Intn(40)
	for len(l.states) < api.MaxDay {
		state := 1 + r.Intn(len(amounts()))
		if r.Intn(gaps) == 0 {
			state = 0
		}
		for range min(1+r.Intn(long), api.MaxDay-len(l.states)) {
			l.states = append(l.states, state)
		}
	}
	return l
}

// notBounds are numbers that are no bounds of the days asked for.
func notBounds() []int {
	return []int{-1, -2, api.MaxDay + 1, api.MaxDay + 2, -api.MaxDay, 1 << 32, -1 << 32, 1<<32 + 5, math.MinInt64, math.MaxInt64}
}

// notLengths are numbers of months that windows do not have.
func notLengths() []int {
	return []int{0, -1, -2, api.MaxMonths + 1, api.MaxMonths + 2, lastMonth, 1 << 32, 1<<32 + 1, -1 << 32, math.MinInt64, math.MinInt64 + 1, math.MaxInt64}
}

// notFracs returns fractions that are not valid.
func notFracs() []api.Frac {
	w := whole.FromInt
	long := power(api.MaxLimbs)
	return []api.Frac{
		{}, {N: w(1)}, {D: w(2)}, {N: w(1), D: w(-2)}, {N: w(-1), D: w(-2)}, {N: w(2), D: w(4)}, {N: w(0), D: w(-1)}, {N: w(1), D: w(0)}, {N: w(0), D: w(2)},
		{N: api.Whole{Neg: true}, D: w(1)}, {N: api.Whole{Limbs: []uint16{1, 0}}, D: w(2)}, {N: w(1), D: api.Whole{Limbs: []uint16{2, 0}}},
		{N: w(1), D: long}, {N: long, D: w(1)},
	}
}

// notRecords returns slices of steps that are not pay records.
func notRecords() [][]api.Step {
	a, b := of("100"), of("1/2")
	list := [][]api.Step{
		{paid(10, 200, a), paid(0, 10, b)}, {paid(0, 100, a), paid(99, 200, b)}, {paid(0, 100, a), paid(100, 200, a)},
		{paid(0, 0, a)}, {paid(5, 4, a)}, {paid(-1, 50, a)}, {paid(5, api.MaxDay+1, a)}, {paid(0, 100, a), paid(100, 100, b)},
		{paid(math.MinInt64, 50, a)}, {paid(5, math.MaxInt64, a)}, {paid(0, 100, b), paid(200, 300, a), paid(300, 400, a)},
	}
	for _, v := range []api.Value{{}, {Kind: api.Number, F: a}, {Kind: api.Number, F: of("0")}, {Kind: api.Truth}, {Kind: api.Truth, I: 1},
		{Kind: api.Date, I: 1}, {Kind: api.Days}, {Kind: api.Days, I: 1}, {Kind: api.Months, I: 1}, {Kind: 7, F: a}, {Kind: api.Money, F: a, I: 1}, {Kind: api.Money, I: 1}, {Kind: api.Money}} {
		list = append(list, []api.Step{{From: 0, To: 100, V: v}}, []api.Step{{From: 0, To: 100, V: v}, paid(200, 300, b)}, []api.Step{paid(0, 50, b), {From: 70, To: 100, V: v}})
	}
	for _, f := range notFracs() {
		list = append(list, []api.Step{paid(0, 100, f)}, []api.Step{paid(0, 100, f), paid(200, 300, b)}, []api.Step{paid(0, 100, b), paid(200, 300, f)}, []api.Step{paid(0, 100, b), paid(200, 300, f), paid(300, 400, a)})
	}
	return list
}

// power returns 65536 to the power n.
func power(n int) api.Whole { return api.Whole{Limbs: append(make([]uint16, n), 1)} }

// maximum returns the greatest whole number of some limbs.
func maximum(limbs int) api.Whole {
	n, _ := whole.Sub(power(limbs), whole.FromInt(1))
	return n
}

// quotient returns n / d.
func quotient(n, d api.Whole) api.Frac {
	f, e := frac.Make(n, d)
	if e != api.OK {
		panic("no quotient")
	}
	return f
}

// plus returns n + k.
func plus(n api.Whole, k int) api.Whole {
	sum, _ := whole.Add(n, whole.FromInt(k))
	return sum
}

func negative(n api.Whole) api.Whole { return api.Whole{Neg: !n.Neg, Limbs: n.Limbs} }

// same reports whether two fractions have the same limbs, not by way of frac.
func same(a, b api.Frac) bool {
	number := func(a, b api.Whole) bool { return a.Neg == b.Neg && slices.Equal(a.Limbs, b.Limbs) }
	return number(a.N, b.N) && number(a.D, b.D)
}

// short returns the beginning of a slice, to be shown.
func short[T any](l []T) []T { return l[:min(len(l), 4)] }

// expectFrac checks that a result is a fraction of the library, without an error; or ErrNone, if that is nil.
func expectFrac(t *testing.T, want *big.Rat, got api.Frac, e api.Errno, what ...any) {
	t.Helper()
	if want == nil {
		expectError(t, api.ErrNone, got, e, what...)
	} else if e != api.OK || rat(got).Cmp(want) != 0 {
		t.Errorf("%v = %v, error %d; want %v", what, got, e, want)
	}
}

// expectError checks that a result is an error, and nothing else.
func expectError(t *testing.T, want api.Errno, got api.Frac, e api.Errno, what ...any) {
	t.Helper()
	if e != want || !same(got, api.Frac{}) {
		t.Errorf("%v = %v, error %d; want error %d", what, got, e, want)
	}
}

// expectMonths checks that a result is a list of months, without an error.
func expectMonths(t *testing.T, want, got []int, e api.Errno, what ...any) {
	t.Helper()
	if e != api.OK || !slices.Equal(got, want) {
		t.Errorf("%v = %v (%d months), error %d; want %v (%d months)", what, short(got), len(got), e, short(want), len(want))
	}
}

// expectWhen checks that a result is a month without an error, or an error without a month.
func expectWhen(t *testing.T, want int, wantE api.Errno, got int, e api.Errno, what ...any) {
	t.Helper()
	if got != want || e != wantE {
		t.Errorf("%v = %d, error %d; want %d, error %d", what, got, e, want, wantE)
	}
}
