package salary_test

import (
	"math/rand"
	"slices"
	"testing"

	"annuitant/api"
	"annuitant/frac"
	"annuitant/salary"
	"annuitant/timeline"
)

// questions returns random days and numbers of months to ask for.
func questions(r *rand.Rand) [][3]int {
	var out [][3]int
	for range 12 {
		from := r.Intn(api.MaxDay)
		out = append(out, [3]int{from, min(api.MaxDay, from+r.Intn(3000)), 1 + r.Intn(1+r.Intn(24))})
	}
	return out
}

// P9.4: Best is at least the average of every possible window, and the average of the window that begins with When.
func TestBestIsGreatest(t *testing.T) {
	r := rand.New(rand.NewSource(7))
	windows := 0
	for range 12 {
		l := random(r).steps()
		for _, q := range questions(r) {
			from, to, n := q[0], q[1], q[2]
			months, _ := salary.Windows(l, from, to, n)
			best, e := salary.Best(l, from, to, n)
			when, e2 := salary.When(l, from, to, n)
			if e != e2 || (e == api.OK) != (len(months) > 0) || e == api.OK && !slices.Contains(months, when) {
				t.Errorf("the best one of %d windows is %d: errors %d and %d", len(months), when, e, e2)
			}
			for _, month := range months {
				average, e := salary.Average(l, first(month), first(month+n))
				if order := frac.Cmp(average, best); e != api.OK || order > 0 || order == 0 && month < when || order < 0 && month == when {
					t.Errorf("the average of the window of %d months from %d on compares with the best one, from %d on, as %d", n, month, when, order)
				}
				windows++
			}
		}
	}
	if windows < 1000 {
		t.Errorf("only %d windows are possible", windows)
	}
}

// P9.4: pay on days that are not asked for does not matter.
func TestOtherDays(t *testing.T) {
	r := rand.New(rand.NewSource(8))
	for range 6 {
		l, other := random(r).steps(), random(r).steps()
		for _, q := range questions(r) {
			from, to, n := q[0], q[1], q[2]
			cut, _ := timeline.Cut(l, from, to)
			joined, _ := timeline.Without(other, from, to)
			joined, e := timeline.Join(joined, cut)
			if e != api.OK {
				t.Fatalf("no other record: error %d", e)
			}
			want, wantMonths := answers(l, from, to, n)
			for _, m := range [][]api.Step{cut, joined} {
				got, months := answers(m, from, to, n)
				if !slices.EqualFunc(got, want, equalAnswers) || !slices.Equal(months, wantMonths) {
					t.Errorf("other days matter: %v and %v, %v and %v", got, want, short(months), short(wantMonths))
				}
			}
		}
	}
}

// answer is the result of a function; month is that of When.
type answer struct {
	f     api.Frac
	month int
	e     api.Errno
}

func equalAnswers(a, b answer) bool { return same(a.f, b.f) && a.month == b.month && a.e == b.e }

// answers returns the results of all functions.
func answers(l []api.Step, from, to, n int) ([]answer, []int) {
	months, e := salary.Windows(l, from, to, n)
	average, e2 := salary.Average(l, from, to)
	best, e3 := salary.Best(l, from, to, n)
	when, e4 := salary.When(l, from, to, n)
	return []answer{{e: e}, {f: average, e: e2}, {f: best, e: e3}, {month: when, e: e4}}, months
}

// P9.4: if all amounts are multiplied by a positive number, so is Best, and When stays.
func TestScaled(t *testing.T) {
	r := rand.New(rand.NewSource(9))
	for _, factor := range []string{"2", "1/3", "1000001/70000", "65536"} {
		for range 2 {
			l := random(r).steps()
			scaled := slices.Clone(l)
			for i := range scaled {
				scaled[i].V.F, _ = frac.Mul(l[i].V.F, of(factor))
			}
			for _, q := range questions(r) {
				want, wantMonths := answers(l, q[0], q[1], q[2])
				for i := range want {
					if want[i].e == api.OK && i > 0 && i < 3 {
						want[i].f, _ = frac.Mul(want[i].f, of(factor))
					}
				}
				got, months := answers(scaled, q[0], q[1], q[2])
				if !slices.EqualFunc(got, want, equalAnswers) || !slices.Equal(months, wantMonths) {
					t.Errorf("with the factor %s: %v, want %v", factor, got, want)
				}
			}
		}
	}
}
