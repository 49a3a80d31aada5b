package timeline_test

import (
	"math/big"
	"math/rand"
	"testing"

	"annuitant/api"
	"annuitant/frac"
	"annuitant/timeline"
)

// rat returns the library's fraction that a fraction is.
func rat(a api.Frac) *big.Rat {
	text, e := frac.Text(a)
	r, ok := new(big.Rat).SetString(text)
	if e != api.OK || !ok {
		panic(text)
	}
	return r
}

// expectSum checks that a sum is a fraction of the library, without an error.
func expectSum(t *testing.T, want *big.Rat, got api.Frac, e api.Errno, what ...any) {
	t.Helper()
	if e != api.OK || rat(got).Cmp(want) != 0 {
		t.Errorf("%v = %v, error %d; want %v", what, got, e, want)
	}
}

// expectSumError checks that a sum is an error, and nothing else.
func expectSumError(t *testing.T, want api.Errno, got api.Frac, e api.Errno, what ...any) {
	t.Helper()
	if e != want || !equal(api.Value{F: got}, api.Value{}) {
		t.Errorf("%v = %v, error %d; want error %d", what, got, e, want)
	}
}

// sumOf adds the values of a line, day by day.
func (l line) sumOf(from, to int) *big.Rat {
	var values []*big.Rat
	for _, v := range l.list {
		values = append(values, rat(v.F))
	}
	sum := new(big.Rat)
	for i, state := range l.states {
		if day := l.first + i; state > 0 && from <= day && day < to {
			sum.Add(sum, values[state-1])
		}
	}
	return sum
}

// P5.3: Sum of all timelines of four days, by all spans around them.
func TestShortSums(t *testing.T) {
	for _, kind := range []uint8{api.Number, api.Money} {
		for _, first := range firsts(4) {
			for _, l := range lines(first, 4, some(kind)) {
				steps := l.steps()
				for _, from := range bounds(first, 4) {
					for _, to := range bounds(first, 4) {
						got, e := timeline.Sum(steps, from, to)
						if from > to {
							expectSumError(t, api.ErrArg, got, e, "Sum", steps, from, to)
						} else {
							expectSum(t, l.sumOf(from, to), got, e, "Sum", steps, from, to)
						}
					}
				}
			}
		}
	}
}

// P5.3: Sum of long timelines.
func TestSums(t *testing.T) {
	r := rand.New(rand.NewSource(3))
	for range 4 {
		l := random(r, some(api.Money))
		steps := l.steps()
		from := r.Intn(api.MaxDay)
		to := from + r.Intn(api.MaxDay-from)
		got, e := timeline.Sum(steps, from, to)
		expectSum(t, l.sumOf(from, to), got, e, "Sum", short(steps), from, to)
		got, e = timeline.Sum(steps, 0, api.MaxDay)
		expectSum(t, l.sumOf(0, api.MaxDay), got, e, "Sum", short(steps))
	}
}

// P5.3: the example, and sums of nothing.
func TestSumExamples(t *testing.T) {
	got, e := timeline.Sum(example(), 5, 20)
	expectSum(t, big.NewRat(25, 2), got, e, "Sum of the example")
	got, e = timeline.Sum(example(), 0, api.MaxDay)
	expectSum(t, big.NewRat(25, 1), got, e, "Sum of the whole example")
	for _, l := range [][]api.Step{nil, {}, example()} {
		for _, c := range [][2]int{{0, 0}, {7, 7}, {30, api.MaxDay}, {api.MaxDay, api.MaxDay}} {
			got, e = timeline.Sum(l, c[0], c[1])
			expectSum(t, new(big.Rat), got, e, "Sum of no days", c)
		}
	}
}

// P5.3: Sum of other kinds, even of no days, and by what is no span.
func TestSumArguments(t *testing.T) {
	for _, kind := range []uint8{api.Truth, api.Date, api.Days, api.Months} {
		for _, v := range some(kind) {
			for _, c := range [][2]int{{0, api.MaxDay}, {5, 8}, {0, 0}, {6, 6}, {20, 30}} {
				got, e := timeline.Sum([]api.Step{step(5, 8, v)}, c[0], c[1])
				expectSumError(t, api.ErrArg, got, e, "Sum of the kind", kind, c)
			}
		}
	}
	list := [][]api.Step{nil, example(), longest(api.Truth)[:9]}
	for _, bad := range notSpans() {
		for _, l := range list {
			got, e := timeline.Sum(l, bad[0], bad[1])
			expectSumError(t, api.ErrArg, got, e, "Sum", bad)
		}
	}
}

// P5.3: sums that are too long, or become so on the way: products first, in the order of the steps.
func TestLongSums(t *testing.T) {
	value := func(f api.Frac) api.Value { return api.Value{Kind: api.Money, F: f} }
	most := limitsOf(api.Money)[0] // the least number
	minus, _ := frac.Neg(most.F)
	tiny := limitsOf(api.Money)[2] // a fraction with a long denominator
	one := value(of("-1"))
	long, _ := frac.Mul(tiny.F, of("1/3"))
	for i, c := range []struct {
		l        []api.Step
		from, to int
		want     api.Errno
	}{
		{[]api.Step{step(0, 1, most)}, 0, 9, api.OK},
		{[]api.Step{step(0, 2, most)}, 0, 9, api.ErrLong},
		{[]api.Step{step(0, 2, most)}, 1, 9, api.OK},
		{[]api.Step{step(0, 2, most)}, 0, 1, api.OK},
		{[]api.Step{step(0, 2, most)}, 2, 9, api.OK},
		{[]api.Step{step(0, 1, most), step(1, 2, one)}, 0, 9, api.ErrLong},
		{[]api.Step{step(0, 1, one), step(1, 2, most)}, 0, 9, api.ErrLong},
		{[]api.Step{step(0, 1, most), step(1, 2, one), step(2, 3, value(minus))}, 0, 9, api.ErrLong},
		{[]api.Step{step(0, 1, most), step(1, 2, value(minus)), step(2, 3, one)}, 0, 9, api.OK},
		{[]api.Step{step(0, 1, value(minus)), step(1, 3, most)}, 0, 9, api.ErrLong},
		{[]api.Step{step(0, 1, most), step(1, 2, value(of("1")))}, 0, 9, api.OK},
		{[]api.Step{step(0, 1, tiny), step(1, 2, value(of("1/3")))}, 0, 9, api.OK},
		{[]api.Step{step(0, 1, tiny), step(1, 2, most)}, 0, 9, api.ErrLong},
		{[]api.Step{step(0, 3, value(long))}, 0, 9, api.OK},
	} {
		got, e := timeline.Sum(c.l, c.from, c.to)
		if c.want != api.OK {
			expectSumError(t, c.want, got, e, "sum", i)
			continue
		}
		want := new(big.Rat)
		for day := c.from; day < c.to; day++ {
			if v, ok := timeline.At(c.l, day); ok {
				want.Add(want, rat(v.F))
			}
		}
		expectSum(t, want, got, e, "sum", i)
	}
}
