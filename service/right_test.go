package service_test

import (
	"math/rand"
	"testing"

	"annuitant/api"
	"annuitant/service"
	"annuitant/whole"
)

// P8.1: service records of all sorts.
func TestRight(t *testing.T) {
	whole256 := power(api.MaxLimbs - 1)
	list := [][]api.Step{
		nil, {}, example(), {step(0, 1, of("0"))}, {step(api.MaxDay-1, api.MaxDay, of("1"))}, {step(0, api.MaxDay, of("1/2"))},
		{step(0, 10, of("0")), step(20, 30, of("0"))}, {step(0, 10, of("1")), step(11, 30, of("1"))}, {step(0, 10, of("65535/65536")), step(10, 11, of("1/65536"))},
		{step(5, 9, api.Frac{N: whole.FromInt(1), D: whole256})}, {step(5, 9, api.Frac{N: whole256, D: next(whole256)})},
	}
	for i, l := range list {
		if !service.Right(l) {
			t.Errorf("the record %d is not right: %v", i, l)
		}
	}
	r := rand.New(rand.NewSource(1))
	for range 5 {
		if l := random(r).steps(); !service.Right(l) {
			t.Errorf("a random record is not right: %v", short(l))
		}
	}
}

// P8.1: what is not a timeline, or has values that are not Numbers from 0 to 1.
func TestNotRight(t *testing.T) {
	for i, l := range notRecords() {
		if service.Right(l) {
			t.Errorf("what is no record is right (%d): %v", i, l)
		}
	}
}

// P8.1: the fractions around 0 and 1.
func TestRightFractions(t *testing.T) {
	for n := -12; n <= 12; n++ {
		for d := 1; d <= 6; d++ {
			f := quotient(n, d)
			if want := 0 <= n && n <= d; service.Right([]api.Step{step(3, 5, f)}) != want {
				t.Errorf("a record with %d/%d is right: %v", n, d, !want)
			}
		}
	}
}

// The functions return ErrArg for what is no record.
func TestNotRecords(t *testing.T) {
	for i, l := range notRecords() {
		for _, c := range [][2]int{{0, api.MaxDay}, {0, 0}, {50, 60}, {9, 5}} {
			checkErrors(t, l, c[0], c[1], "not a record", i, c)
		}
	}
}

// The functions return ErrArg if a bound of the days asked for is not from 0 to MaxDay.
func TestNotBounds(t *testing.T) {
	for _, l := range [][]api.Step{nil, example()} {
		for _, bad := range notBounds() {
			for _, day := range append(notBounds(), 0, 5, 500, api.MaxDay) {
				checkErrors(t, l, bad, day, "not days", bad, day)
				checkErrors(t, l, day, bad, "not days", day, bad)
			}
		}
	}
}

// checkErrors checks that all functions return ErrArg for some arguments.
func checkErrors(t *testing.T, l []api.Step, from, to int, what ...any) {
	t.Helper()
	years, e := service.Years(l, from, to)
	expectNoYears(t, api.ErrArg, years, e, append(what, "Years"))
	for _, most := range []string{"0", "1/3", "5000"} {
		years, e = service.Capped(l, from, to, of(most))
		expectNoYears(t, api.ErrArg, years, e, append(what, "Capped"))
	}
	set, e := service.Worked(l, from, to)
	expectNoSet(t, set, e, append(what, "Worked"))
	set, e = service.Breaks(l, from, to)
	expectNoSet(t, set, e, append(what, "Breaks"))
	for _, bridge := range []int{0, 50, -1} {
		set, e = service.Periods(l, from, to, bridge)
		expectNoSet(t, set, e, append(what, "Periods"))
	}
}
