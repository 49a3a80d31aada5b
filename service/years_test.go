package service_test

import (
	"math/big"
	"math/rand"
	"testing"

	"annuitant/api"
	"annuitant/frac"
	"annuitant/service"
	"annuitant/whole"
)

// quotient returns n / d.
func quotient(n, d int) api.Frac {
	f, e := frac.Make(whole.FromInt(n), whole.FromInt(d))
	if e != api.OK {
		panic("no quotient")
	}
	return f
}

// P8.2: Years of all records of four days, by all bounds around them.
func TestShortYears(t *testing.T) {
	for _, first := range firsts(4) {
		for _, l := range lines(first, 4) {
			steps := l.steps()
			for _, from := range bounds(first, 4) {
				for _, to := range bounds(first, 4) {
					got, e := service.Years(steps, from, to)
					expectYears(t, l.years(from, to), got, e, "Years", steps, from, to)
				}
			}
		}
	}
}

// P8.2: Years of long records.
func TestLongYears(t *testing.T) {
	r := rand.New(rand.NewSource(2))
	for range 8 {
		l := random(r)
		steps := l.steps()
		for _, c := range [][2]int{{0, api.MaxDay}, {api.MaxDay, 0}, {r.Intn(api.MaxDay), r.Intn(api.MaxDay)}, {r.Intn(api.MaxDay), r.Intn(api.MaxDay)}} {
			got, e := service.Years(steps, c[0], c[1])
			expectYears(t, l.years(c[0], c[1]), got, e, "Years", short(steps), c)
		}
	}
}

// P8.2: the examples, and years of no days.
func TestYearsExamples(t *testing.T) {
	for _, c := range []struct {
		l        []api.Step
		from, to int
		want     string
	}{
		{example(), 0, 300, "200/487"}, {example(), 50, 50, "0"}, {example(), 120, 110, "0"}, {example(), 0, api.MaxDay, "200/487"},
		{example(), 0, 100, "400/1461"}, {example(), 99, 101, "2/487"}, {example(), 150, 160, "0"}, {example(), 160, 200, "0"}, {example(), 300, 0, "0"},
		{nil, 0, api.MaxDay, "0"}, {nil, api.MaxDay, 0, "0"}, {nil, api.MaxDay, api.MaxDay, "0"}, {nil, 0, 0, "0"},
		{[]api.Step{step(0, 1461, of("1"))}, 0, 1461, "4"}, {[]api.Step{step(0, api.MaxDay, of("1"))}, 0, api.MaxDay, "262144/1461"},
		{[]api.Step{step(0, api.MaxDay, of("1"))}, api.MaxDay - 1, api.MaxDay, "4/1461"}, {[]api.Step{step(0, 1461, of("1/4"))}, 0, 1461, "1"},
	} {
		got, e := service.Years(c.l, c.from, c.to)
		expectYears(t, rat(of(c.want)), got, e, "Years", c.l, c.from, c.to)
	}
}

// longs returns a record for which sums, and years, can become too long: the days 0 and 1 have fractions with long denominators, whose least common multiple is too long, and the days from 10 on one that becomes too long by the factor 4/1461.
func longs() []api.Step {
	one := whole.FromInt(1)
	long := power(api.MaxLimbs - 1)
	return []api.Step{step(0, 1, api.Frac{N: one, D: long}), step(1, 2, api.Frac{N: one, D: next(long)}), step(10, 1471, api.Frac{N: one, D: maximum()})}
}

// maximum returns the greatest denominator; it has no divisor in common with 4 and 1461 but 3.
func maximum() api.Whole {
	limbs := make([]uint16, api.MaxLimbs)
	for i := range limbs {
		limbs[i] = 65535
	}
	return api.Whole{Limbs: limbs}
}

// P8.2: errors of timeline.Sum and of frac.Mul; what is too long on the way.
func TestYearsErrors(t *testing.T) {
	for _, c := range []struct {
		from, to int
		want     api.Errno
	}{
		{0, 2, api.ErrLong}, {0, 9, api.ErrLong}, {0, 20, api.ErrLong}, {0, 1, api.OK}, {1, 2, api.OK}, {1, 11, api.ErrLong},
		{2, 10, api.OK}, {10, 11, api.ErrLong}, {10, 1471, api.OK}, {10, 1470, api.ErrLong}, {11, 5, api.OK}, {0, 0, api.OK}, {10, 497, api.ErrLong},
	} {
		got, e := service.Years(longs(), c.from, c.to)
		cut, e2 := service.Capped(longs(), c.from, c.to, of("5000"))
		if c.want != api.OK {
			expectNoYears(t, c.want, got, e, "Years", c.from, c.to)
			expectNoYears(t, c.want, cut, e2, "Capped", c.from, c.to)
			continue
		}
		want := new(big.Rat)
		for _, s := range longs() {
			days := max(0, min(s.To, c.to)-max(s.From, c.from))
			want.Add(want, new(big.Rat).Mul(rat(s.V.F), big.NewRat(int64(days)*4, 1461)))
		}
		expectYears(t, want, got, e, "Years", c.from, c.to)
		expectYears(t, want, cut, e2, "Capped", c.from, c.to)
	}
}

// P8.2: Capped, with limits below, at and above the years.
func TestCapped(t *testing.T) {
	for _, l := range lines(1000, 4) {
		steps := l.steps()
		for _, c := range [][2]int{{0, api.MaxDay}, {1000, 1002}, {1001, 1004}, {1003, 1000}} {
			years := l.years(c[0], c[1])
			for _, most := range []api.Frac{of("0"), of("1/3"), of("5000"), quotient(4, 1461), quotient(6, 1461), quotient(8, 1461), quotient(1, 400)} {
				want := years
				if rat(most).Cmp(years) < 0 {
					want = rat(most)
				}
				got, e := service.Capped(steps, c[0], c[1], most)
				expectYears(t, want, got, e, "Capped", steps, c, most)
			}
		}
	}
	got, e := service.Capped(example(), 0, 300, of("1/3"))
	expectYears(t, big.NewRat(1, 3), got, e, "Capped of the example")
	got, e = service.Capped(example(), 0, 300, of("1/2"))
	expectYears(t, big.NewRat(200, 487), got, e, "Capped of the example")
}

// P8.2: limits that are not valid, or negative, come first.
func TestCappedArguments(t *testing.T) {
	for _, most := range append(notFracs(), of("-1"), of("-1/2"), of("-1/70000"), api.Frac{N: whole.FromInt(-1), D: maximum()}) {
		for _, l := range [][]api.Step{nil, example(), longs(), {step(0, 1, of("2"))}} {
			for _, c := range [][2]int{{0, 20}, {5, 5}, {-1, 5}} {
				got, e := service.Capped(l, c[0], c[1], most)
				expectNoYears(t, api.ErrArg, got, e, "Capped", l, c, most)
			}
		}
	}
	tiny := api.Frac{N: whole.FromInt(1), D: maximum()}
	got, e := service.Capped(example(), 0, 300, tiny)
	expectYears(t, rat(tiny), got, e, "Capped by a small limit")
	got, e = service.Capped(longs(), 0, 20, of("0"))
	expectNoYears(t, api.ErrLong, got, e, "Capped of what is too long by 0")
}
