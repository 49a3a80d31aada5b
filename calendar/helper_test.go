package calendar_test

import (
	"math"
	"testing"
	"time"

	"annuitant/api"
)

const months = 2154 // of the numbering, the last one of which is not complete

// civil returns a day as the library's date, which serves as the oracle.
func civil(day int) time.Time { return date(1900, 1, 1+day) }

// date returns the library's date of a year, a month and a day of the month; also of those that run over.
func date(year, month, day int) time.Time {
	return time.Date(year, time.Month(month), day, 0, 0, 0, 0, time.UTC)
}

// number returns the number of the library's date; false if it has none.
func number(d time.Time) (int, bool) {
	day := int(d.Sub(civil(0)) / (24 * time.Hour))
	return day, !d.Before(civil(0)) && day < api.MaxDay
}

// isLeap reports by the library whether a year is a leap year.
func isLeap(year int) bool { return date(year, 2, 29).Day() == 29 }

// later returns by the library the date that is n months later; false if there is none.
func later(day, n int) (int, bool) {
	d := civil(day)
	month := int(d.Month()) + n
	last := date(d.Year(), month+1, 0).Day()
	return number(date(d.Year(), month, min(d.Day(), last)))
}

// dates returns days of all sorts: first, middle and last ones of months of years of every sort, and the ends of the numbering.
func dates() []int {
	list := []int{0, 1, 30, 31, 58, 59, 89, 364, 365, api.MaxDay - 37, api.MaxDay - 36, api.MaxDay - 7, api.MaxDay - 6, api.MaxDay - 2, api.MaxDay - 1}
	for _, year := range []int{1900, 1903, 1904, 1905, 1999, 2000, 2001, 2023, 2024, 2078, 2079} {
		for month := 1; month <= 12; month++ {
			for _, d := range []int{1, 6, 7, 15, 28, 29, 30, 31} {
				if day, ok := number(date(year, month, d)); ok {
					list = append(list, day)
				}
			}
		}
	}
	return list
}

// noDates returns numbers that are no dates.
func noDates() []int {
	return []int{-1, -2, -31, -365, api.MaxDay, api.MaxDay + 1, api.MaxDay + 31, 1 << 17, 1 << 32, -1 << 32, 1<<32 + 100, math.MaxInt64, math.MaxInt64 - 1, math.MinInt64, math.MinInt64 + 1}
}

// result is a number, and an error.
type result struct {
	n int
	e api.Errno
}

// of returns what a function returned.
func of(n int, e api.Errno) result { return result{n, e} }

// ok is the result that is a number, without an error.
func ok(n int) result { return result{n, api.OK} }

// failed is the result that is an error, and nothing else.
func failed(e api.Errno) result { return result{0, e} }

// expect checks a result of a call, which is shown as what.
func expect(t *testing.T, want, got result, what ...any) {
	t.Helper()
	if got != want {
		t.Errorf("%v = %d, error %d; want %d, error %d", what, got.n, got.e, want.n, want.e)
	}
}
