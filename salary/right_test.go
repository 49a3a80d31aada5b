package salary_test

import (
	"math/rand"
	"testing"

	"annuitant/api"
	"annuitant/salary"
	"annuitant/whole"
)

// P9.1: pay records of all sorts.
func TestRight(t *testing.T) {
	list := [][]api.Step{
		nil, {}, example(), {paid(0, 1, of("0"))}, {paid(api.MaxDay-1, api.MaxDay, of("1"))}, {paid(0, api.MaxDay, of("-1/2"))},
		{paid(0, 10, of("5")), paid(20, 30, of("5"))}, {paid(0, 10, of("-5")), paid(10, 30, of("5"))},
		{paid(5, 9, quotient(whole.FromInt(1), maximum(api.MaxLimbs)))}, {paid(5, 9, quotient(negative(maximum(api.MaxLimbs)), whole.FromInt(1)))},
		{paid(5, 9, quotient(maximum(api.MaxLimbs), power(api.MaxLimbs-1)))},
	}
	for i, l := range list {
		if !salary.Right(l) {
			t.Errorf("the record %d is not right: %v", i, l)
		}
	}
	r := rand.New(rand.NewSource(1))
	for range 5 {
		if l := random(r).steps(); !salary.Right(l) {
			t.Errorf("a random record is not right: %v", short(l))
		}
	}
}

// P9.1: what is not a timeline, or has values that are not amounts of Money.
func TestNotRight(t *testing.T) {
	for i, l := range notRecords() {
		if salary.Right(l) {
			t.Errorf("what is no record is right (%d): %v", i, l)
		}
	}
}

// checkErrors checks that all functions return ErrArg for some arguments.
func checkErrors(t *testing.T, l []api.Step, from, to, n int, what ...any) {
	t.Helper()
	months, e := salary.Windows(l, from, to, n)
	if e != api.ErrArg || len(months) > 0 {
		t.Errorf("%v: Windows = %v, error %d", what, short(months), e)
	}
	month, e := salary.When(l, from, to, n)
	expectWhen(t, 0, api.ErrArg, month, e, append(what, "When"))
	average, e := salary.Best(l, from, to, n)
	expectError(t, api.ErrArg, average, e, append(what, "Best"))
}

// The functions return ErrArg for what is no record.
func TestNotRecords(t *testing.T) {
	for i, l := range notRecords() {
		for _, c := range [][2]int{{0, api.MaxDay}, {0, 0}, {120, 190}, {9, 5}, {0, 31}} {
			average, e := salary.Average(l, c[0], c[1])
			expectError(t, api.ErrArg, average, e, "Average of what is not a record", i, c)
			for _, n := range []int{1, 2, api.MaxMonths, 0} {
				checkErrors(t, l, c[0], c[1], n, "not a record", i, c, n)
			}
		}
	}
}

// The functions return ErrArg if a bound of the days asked for is not from 0 to MaxDay.
func TestNotBounds(t *testing.T) {
	for _, l := range [][]api.Step{nil, example(), {paid(0, api.MaxDay, of("1"))}} {
		for _, bad := range notBounds() {
			for _, day := range append(notBounds(), 0, 5, 500, api.MaxDay) {
				for _, c := range [][2]int{{bad, day}, {day, bad}} {
					average, e := salary.Average(l, c[0], c[1])
					expectError(t, api.ErrArg, average, e, "Average of what are not days", c)
					checkErrors(t, l, c[0], c[1], 1, "not days", c)
				}
			}
		}
	}
}

// The functions return ErrArg if a number of months is not from 1 to MaxMonths.
func TestNotLengths(t *testing.T) {
	for _, l := range [][]api.Step{nil, example(), {paid(0, api.MaxDay, of("1"))}} {
		for _, n := range notLengths() {
			for _, c := range [][2]int{{0, api.MaxDay}, {0, 31}, {5, 5}, {9, 3}, {api.MaxDay, api.MaxDay}} {
				checkErrors(t, l, c[0], c[1], n, "not a length", n, c)
			}
		}
	}
}
