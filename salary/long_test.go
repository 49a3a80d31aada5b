package salary_test

import (
	"math/rand"
	"testing"

	"annuitant/api"
	"annuitant/frac"
	"annuitant/salary"
	"annuitant/whole"
)

// definedBest returns the month and the average of the best window by their definition, window by window.
func definedBest(l []api.Step, from, to, n int) (int, api.Frac, api.Errno) {
	months, _ := salary.Windows(l, from, to, n)
	month, best := 0, api.Frac{}
	for i, m := range months {
		a, e := defined(l, first(m), first(m+n))
		if e != api.OK {
			return 0, api.Frac{}, e
		}
		if i == 0 || frac.Cmp(a, best) > 0 {
			month, best = m, a
		}
	}
	if len(months) == 0 {
		return 0, api.Frac{}, api.ErrNone
	}
	return month, best, api.OK
}

// checkLong compares When and Best with their definition, and returns the error.
func checkLong(t *testing.T, l []api.Step, from, to, n int) api.Errno {
	t.Helper()
	wantMonth, want, wantE := definedBest(l, from, to, n)
	month, e := salary.When(l, from, to, n)
	expectWhen(t, wantMonth, wantE, month, e, "When", from, to, n)
	got, e := salary.Best(l, from, to, n)
	if e != wantE || !same(got, want) {
		t.Errorf("Best from %d to %d with %d months, of %d steps: %d and %d limbs, error %d; want %d and %d limbs, error %d", from, to, n, len(l), len(got.N.Limbs), len(got.D.Limbs), e, len(want.N.Limbs), len(want.D.Limbs), wantE)
	}
	return e
}

// P9.3: the averages of possible windows that are errors, and of others that are not asked for.
func TestBestTooLong(t *testing.T) {
	errors := map[api.Errno]int{}
	for _, l := range longs() {
		for _, from := range []int{0, 1, 31, 32, 59, 60, 90} {
			for _, to := range []int{31, 58, 59, 90, 120, 300} {
				for n := 1; n <= 4; n++ {
					errors[checkLong(t, l, from, to, n)]++
				}
			}
		}
	}
	for _, e := range []api.Errno{api.OK, api.ErrLong, api.ErrNone} {
		if errors[e] < 30 {
			t.Errorf("only %d results have error %d", errors[e], e)
		}
	}
	l := longs()[6] // only March is too long
	for _, c := range []struct {
		from, to, n int
		want        api.Errno
	}{{31, 59, 1, api.OK}, {31, 120, 1, api.ErrLong}, {59, 120, 1, api.ErrLong}, {60, 120, 1, api.OK}, {31, 89, 1, api.OK}, {31, 120, 2, api.ErrLong}, {60, 120, 2, api.ErrNone}} {
		if e := checkLong(t, l, c.from, c.to, c.n); e != c.want {
			t.Errorf("from %d to %d, with %d months: error %d, want %d", c.from, c.to, c.n, e, c.want)
		}
	}
}

// P9.3: months each of which is short enough, but several of which are not, or not in this order.
func TestLongMonths(t *testing.T) {
	top, low := quotient(maximum(api.MaxLimbs), whole.FromInt(1)), quotient(negative(maximum(api.MaxLimbs)), whole.FromInt(1))
	var up, turns []api.Step
	for month := range 6 {
		up = append(up, paid(first(month), first(month)+1, top), paid(first(month)+1, first(month+1), of("0")))
		amount := []api.Frac{top, low}[month%2]
		turns = append(turns, paid(first(month), first(month)+1, amount), paid(first(month)+1, first(month+1), of("0")))
	}
	for _, c := range []struct {
		l    []api.Step
		n    int
		want api.Errno
	}{{up, 1, api.OK}, {up, 2, api.ErrLong}, {up, 6, api.ErrLong}, {up, 7, api.ErrNone}, {turns, 1, api.OK}, {turns, 2, api.OK}, {turns, 3, api.OK}, {turns, 6, api.OK}} {
		if e := checkLong(t, c.l, 0, api.MaxDay, c.n); e != c.want {
			t.Errorf("%d months: error %d, want %d", c.n, e, c.want)
		}
	}
}

// P9.3: records of all days with numerators and denominators around the length at which sums can be too long.
func TestLongestAmounts(t *testing.T) {
	errors := map[api.Errno]int{}
	for _, d := range []int{1, 128, 252} {
		for sum := api.MaxLimbs - 2; sum <= api.MaxLimbs+2; sum++ {
			if n := sum - d; n <= api.MaxLimbs {
				checkLongest(t, n, d, errors)
			}
		}
	}
	if errors[api.OK] < 30 || errors[api.ErrLong] < 30 {
		t.Errorf("%d results are short enough, and %d are too long", errors[api.OK], errors[api.ErrLong])
	}
}

// checkLongest checks records with numerators and denominators of some limbs, and counts the errors.
func checkLongest(t *testing.T, n, d int, errors map[api.Errno]int) {
	t.Helper()
	a, b := quotient(maximum(n), plus(maximum(d), -1)), quotient(plus(maximum(n), -1), maximum(d))
	for _, l := range [][]api.Step{
		{paid(0, api.MaxDay, a)},
		{paid(0, 30000, a), paid(30000, api.MaxDay, of("1/2"))},
		{paid(0, 20000, of("5")), paid(20000, 65000, a), paid(65000, 65300, b), paid(65300, api.MaxDay, a)},
	} {
		for _, q := range [][3]int{{65200, api.MaxDay, 1}, {first(2000), api.MaxDay, 150}, {64200, api.MaxDay, 40}} {
			errors[checkLong(t, l, q[0], q[1], q[2])]++
		}
	}
}

// P9.3: each month is short enough, or the first one is not; all months together have one limb more.
func TestLongTotals(t *testing.T) {
	for _, d := range []int{1, 128, 255} {
		for n := api.MaxLimbs - d - 2; n <= api.MaxLimbs-d+1; n++ {
			if n < 1 {
				continue
			}
			large := api.Whole{Limbs: append(make([]uint16, n-1), 1000)}
			l := []api.Step{paid(0, 1, quotient(whole.FromInt(1), maximum(d))), paid(1, api.MaxDay, quotient(large, whole.FromInt(1)))}
			want := api.OK
			if n+d > api.MaxLimbs {
				want = api.ErrLong
			}
			if e := checkLong(t, l, 0, api.MaxDay, 1); e != want {
				t.Errorf("%d and %d limbs: error %d, want %d", n, d, e, want)
			}
		}
	}
}

// P9.3: random records of long and of short amounts.
func TestRandomLong(t *testing.T) {
	r := rand.New(rand.NewSource(6))
	one, limbs := whole.FromInt(1), api.MaxLimbs
	pools := [][]api.Frac{
		{of("0"), of("1"), quotient(maximum(limbs), one), quotient(negative(maximum(limbs)), one), quotient(power(limbs-1), one)},
		{of("0"), of("1/3"), quotient(one, maximum(limbs)), quotient(negative(one), power(limbs-1)), quotient(one, power(limbs-1))},
		{of("2/5"), quotient(maximum(127), maximum(126)), quotient(one, power(127)), quotient(maximum(128), one), quotient(negative(one), plus(power(120), 1))},
		{of("0"), of("7"), quotient(maximum(253), one), quotient(negative(maximum(254)), one), quotient(maximum(255), one), quotient(power(254), whole.FromInt(3))},
		{of("0"), quotient(one, power(60)), quotient(one, plus(power(60), 1)), quotient(one, plus(power(60), 3)), quotient(one, plus(power(60), 7)), quotient(one, plus(power(60), 9))},
	}
	errors := map[api.Errno]int{}
	for range 30 {
		for _, pool := range pools {
			begin := r.Intn(2000)
			l := mixture(r, pool, begin, 14)
			for n := 1; n <= 5; n++ {
				errors[checkLong(t, l, first(begin+r.Intn(6)), first(begin+14), n)]++
			}
		}
	}
	if errors[api.OK] < 100 || errors[api.ErrLong] < 100 {
		t.Errorf("%d results are short enough, and %d are too long", errors[api.OK], errors[api.ErrLong])
	}
}

// mixture returns a record of some months with amounts from a pool.
func mixture(r *rand.Rand, pool []api.Frac, begin, months int) []api.Step {
	var out []api.Step
	last := -1
	for day, end := first(begin), first(begin+months); day < end; {
		to := min(end, day+1+r.Intn(1+r.Intn(200)))
		if k := r.Intn(len(pool)); k != last {
			out = append(out, paid(day, to, pool[k]))
			last = k
		} else {
			out[len(out)-1].To = to
		}
		day = to
	}
	return out
}

// P9.3: a record with as many steps as there are days.
func TestManySteps(t *testing.T) {
	l := line{0, make([]int, api.MaxDay)}
	for i := range l.states {
		l.states[i] = 1 + (i+i/365)%len(amounts())
	}
	for i := 1; i < len(l.states); i++ {
		if l.states[i] == l.states[i-1] {
			l.states[i] = 1 + l.states[i]%len(amounts())
		}
	}
	steps, y := l.steps(), l.tally()
	if len(steps) < api.MaxDay-500 {
		t.Fatalf("the record has only %d steps", len(steps))
	}
	for _, n := range []int{1, 36, 600, api.MaxMonths} {
		y.check(t, steps, 0, api.MaxDay, n)
	}
	got, e := salary.Average(steps, 0, api.MaxDay)
	expectFrac(t, y.average(0, api.MaxDay), got, e, "Average of all days")
}
