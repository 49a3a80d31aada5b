package service_test

import (
	"math/big"
	"math/rand"
	"slices"
	"testing"

	"annuitant/api"
	"annuitant/frac"
	"annuitant/service"
	"annuitant/span"
)

// years returns the years of a record, without an error.
func years(t *testing.T, l []api.Step, from, to int) api.Frac {
	t.Helper()
	y, e := service.Years(l, from, to)
	if e != api.OK || !frac.Valid(y) {
		t.Fatalf("Years(%v, %d, %d) = %v, error %d", short(l), from, to, y, e)
	}
	return y
}

// P8.5: service on neighbouring spans adds up.
func TestYearsAddUp(t *testing.T) {
	check := func(l []api.Step, from, middle, to int) {
		sum, e := frac.Add(years(t, l, from, middle), years(t, l, middle, to))
		if e != api.OK || !same(sum, years(t, l, from, to)) {
			t.Errorf("the years of %v from %d to %d, and to %d, do not add up", short(l), from, middle, to)
		}
	}
	for _, l := range lines(7, 4) {
		for from := 6; from < 13; from++ {
			for to := from; to < 13; to++ {
				for middle := from; middle <= to; middle++ {
					check(l.steps(), from, middle, to)
				}
			}
		}
	}
	r := rand.New(rand.NewSource(5))
	for range 20 {
		days := []int{r.Intn(api.MaxDay), r.Intn(api.MaxDay), r.Intn(api.MaxDay)}
		slices.Sort(days)
		check(random(r).steps(), days[0], days[1], days[2])
	}
}

// P8.5: service is at most the days asked for, and equal to them exactly if all of them have the fraction 1.
func TestYearsAreAtMostTheDays(t *testing.T) {
	for _, l := range lines(7, 4) {
		steps := l.steps()
		for from := 7; from < 11; from++ {
			for to := from; to <= 11; to++ {
				full := !slices.ContainsFunc(l.states[from-7:to-7], func(state int) bool { return state != 3 })
				order := rat(years(t, steps, from, to)).Cmp(big.NewRat(int64(to-from)*4, 1461))
				if order > 0 || (order == 0) != full {
					t.Errorf("the years of %v from %d to %d compare with the days as %d", steps, from, to, order)
				}
			}
		}
	}
}

// P8.5: worked days and breaks together are one span, from the first worked day to the last one.
func TestWorkedAndBreaks(t *testing.T) {
	check := func(l []api.Step, from, to int) {
		worked, _ := service.Worked(l, from, to)
		breaks, _ := service.Breaks(l, from, to)
		all, e := span.Union(worked, breaks)
		both, _ := span.Meet(worked, breaks)
		if e != api.OK || len(both) > 0 || len(all) > 1 || len(all) == 1 && (all[0].From != worked[0].From || all[0].To != worked[len(worked)-1].To) || len(all) != min(1, len(worked)) {
			t.Errorf("days of %v from %d to %d: worked %v, breaks %v", short(l), from, to, short(worked), short(breaks))
		}
	}
	for _, l := range lines(7, 5) {
		for from := 6; from < 13; from++ {
			for to := 6; to < 14; to++ {
				check(l.steps(), from, to)
			}
		}
	}
	r := rand.New(rand.NewSource(6))
	for range 20 {
		check(random(r).steps(), r.Intn(api.MaxDay), r.Intn(api.MaxDay))
	}
}

// P8.4, P8.5: Periods without a bridge are Worked, and with one that is long enough they are one span.
func TestPeriodsBetween(t *testing.T) {
	for _, l := range lines(7, 5) {
		worked, _ := service.Worked(l.steps(), 0, 20)
		breaks, _ := service.Breaks(l.steps(), 0, 20)
		all, _ := span.Union(worked, breaks)
		got, e := service.Periods(l.steps(), 0, 20, 0)
		expectSet(t, worked, got, e, "Periods without a bridge")
		got, e = service.Periods(l.steps(), 0, 20, 20)
		expectSet(t, all, got, e, "Periods with a long bridge")
	}
}
