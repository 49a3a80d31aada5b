package salary_test

import (
	"math/big"
	"math/rand"
	"testing"

	"annuitant/api"
	"annuitant/frac"
	"annuitant/salary"
	"annuitant/timeline"
	"annuitant/whole"
)

// lines returns all lines of n days from a first one on that have no amount, or one of the first three.
func lines(first, n int) []line {
	var out []line
	for code := range 1 << (2 * n) {
		states := make([]int, n)
		for i := range states {
			states[i] = code >> (2 * i) & 3
		}
		out = append(out, line{first, states})
	}
	return out
}

// P9.2: Average of all records of four days, by all bounds around them.
func TestShortAverage(t *testing.T) {
	for _, first := range []int{0, 1000, api.MaxDay - 4} {
		for _, l := range lines(first, 4) {
			steps := l.steps()
			for from := max(0, first-1); from <= min(first+5, api.MaxDay); from++ {
				for to := max(0, first-1); to <= min(first+5, api.MaxDay); to++ {
					got, e := salary.Average(steps, from, to)
					expectFrac(t, l.average(from, to), got, e, "Average", steps, from, to)
				}
			}
		}
	}
}

// average returns the average of a few days, one by one.
func (l line) average(from, to int) *big.Rat {
	sum := new(big.Rat)
	for day := from; day < to; day++ {
		state := l.state(day)
		if state == 0 {
			return nil
		}
		sum.Add(sum, rat(amounts()[state-1]))
	}
	if to <= from {
		return nil
	}
	return sum.Quo(sum, big.NewRat(int64(to-from), 1))
}

// P9.2: Average of long records.
func TestLongAverage(t *testing.T) {
	r := rand.New(rand.NewSource(2))
	for range 6 {
		l := random(r)
		steps, y := l.steps(), l.tally()
		for range 20 {
			from := r.Intn(api.MaxDay)
			to := min(api.MaxDay, from+r.Intn(1<<r.Intn(16)))
			got, e := salary.Average(steps, from, to)
			expectFrac(t, y.average(from, to), got, e, "Average", short(steps), from, to)
		}
		got, e := salary.Average(steps, 0, api.MaxDay)
		expectFrac(t, y.average(0, api.MaxDay), got, e, "Average", short(steps))
	}
}

// P9.2: the examples, and days that are not covered.
func TestAverageExamples(t *testing.T) {
	all := []api.Step{paid(0, api.MaxDay, of("7/3"))}
	for _, c := range []struct {
		l        []api.Step
		from, to int
		want     string
	}{
		{example(), 0, 90, "362/3"}, {example(), 0, 121, ""}, {example(), 0, 120, "123"}, {example(), 0, 59, "100"}, {example(), 58, 60, "130"},
		{example(), 119, 121, ""}, {example(), 120, 125, ""}, {example(), 120, 126, ""}, {example(), 124, 126, ""}, {example(), 125, 126, "900"}, {example(), 125, 200, "900"},
		{example(), 125, 201, ""}, {example(), 0, 200, ""}, {example(), 50, 50, ""}, {example(), 60, 50, ""}, {example(), 122, 122, ""}, {example(), 200, 0, ""},
		{nil, 0, 0, ""}, {nil, 0, 1, ""}, {nil, 5, 3, ""}, {nil, 0, api.MaxDay, ""}, {nil, api.MaxDay, api.MaxDay, ""},
		{all, 0, api.MaxDay, "7/3"}, {all, api.MaxDay - 1, api.MaxDay, "7/3"}, {all, api.MaxDay, api.MaxDay, ""}, {all, api.MaxDay, 0, ""}, {all, 0, 0, ""}, {all, 0, 1, "7/3"},
	} {
		var want *big.Rat
		if c.want != "" {
			want = rat(of(c.want))
		}
		got, e := salary.Average(c.l, c.from, c.to)
		expectFrac(t, want, got, e, "Average", c.l, c.from, c.to)
	}
}

// longs returns records with which sums and averages can be too long.
func longs() [][]api.Step {
	one, limbs := whole.FromInt(1), api.MaxLimbs
	top := quotient(maximum(limbs), one)
	low := quotient(negative(maximum(limbs)), one)
	half := quotient(power(limbs-1), one)
	a, b := quotient(one, power(limbs-1)), quotient(one, plus(power(limbs-1), 1))
	minusB := quotient(negative(one), plus(power(limbs-1), 1))
	tiny := quotient(one, maximum(limbs))
	zero := of("0")
	return [][]api.Step{
		{paid(0, 1, top), paid(1, 2, low), paid(2, 400, zero)},
		{paid(0, 1, top), paid(1, 2, half), paid(2, 3, low), paid(3, 400, zero)},                        // too long before the end
		{paid(0, 1, zero), paid(1, 3, top), paid(3, 5, low), paid(5, 400, zero)},                        // a product is too long
		{paid(0, 1, a), paid(1, 2, zero), paid(2, 3, b), paid(3, 4, minusB), paid(4, 400, zero)},        // too long before the end
		{paid(0, 1, tiny), paid(1, 400, zero)},                                                          // the quotient is too long
		{paid(0, 31, tiny), paid(31, 59, quotient(negative(one), maximum(limbs))), paid(59, 400, zero)}, // 0 after two months
		{paid(31, 32, of("1")), paid(32, 59, zero), paid(59, 90, top), paid(90, 120, of("3"))},          // only one month is too long
		{paid(0, 10, of("1")), paid(11, 12, top), paid(12, 13, low), paid(20, 21, a), paid(21, 22, b)},  // days that are not covered
		{paid(31, 59, of("7")), paid(59, 60, top), paid(60, 89, zero), paid(89, 90, low), paid(90, 300, of("7"))},
	}
}

// P9.2: the errors of timeline.Sum and of frac.Div.
func TestAverageTooLong(t *testing.T) {
	failed := 0
	for i, l := range longs() {
		for _, from := range []int{0, 1, 2, 3, 5, 11, 31, 59, 60, 90} {
			for _, to := range []int{1, 2, 3, 4, 5, 12, 13, 31, 32, 59, 60, 90, 120, 300} {
				want, wantE := api.Frac{}, api.ErrNone
				if from < to && covered(l, from, to) {
					want, wantE = defined(l, from, to)
				}
				got, e := salary.Average(l, from, to)
				if e != wantE || !same(got, want) {
					t.Errorf("record %d: Average(%d, %d) = %v, error %d; want %v, error %d", i, from, to, got, e, want, wantE)
				}
				if e == api.ErrLong {
					failed++
				}
			}
		}
	}
	if failed < 50 {
		t.Errorf("only %d averages are too long", failed)
	}
	got, e := salary.Average(longs()[4], 0, 1)
	expectFrac(t, rat(quotient(whole.FromInt(1), maximum(api.MaxLimbs))), got, e, "Average of a tiny amount")
	got, e = salary.Average(longs()[4], 0, 2)
	expectError(t, api.ErrLong, got, e, "Average of a tiny amount on two days")
	got, e = salary.Average(longs()[5], 0, 59) // the sum is 31 times, and then 3 times the tiny amount
	expectError(t, api.ErrLong, got, e, "Average of tiny amounts")
}

// covered reports whether each day from from to to - 1 has a value.
func covered(l []api.Step, from, to int) bool {
	for day := from; day < to; day++ {
		if _, ok := timeline.At(l, day); !ok {
			return false
		}
	}
	return true
}

// defined returns the average by its definition.
func defined(l []api.Step, from, to int) (api.Frac, api.Errno) {
	sum, e := timeline.Sum(l, from, to)
	if e != api.OK {
		return api.Frac{}, e
	}
	return frac.Div(sum, frac.FromInt(to-from))
}
