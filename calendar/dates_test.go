package calendar_test

import (
	"math"
	"testing"

	"annuitant/api"
	"annuitant/calendar"
)

// P3.1: leap years, before and after those of dates, too.
func TestLeap(t *testing.T) {
	for year := -2500; year <= 5000; year++ {
		if got := calendar.Leap(year); got != isLeap(year) {
			t.Errorf("Leap(%d) = %v", year, got)
		}
	}
	for year, want := range map[int]bool{
		0: true, 4: true, -4: true, 100: false, -100: false, 400: true, -400: true, -1: false, -2: false,
		1900: false, 2000: true, 2024: true, 2100: false, 2023: false, 1 << 40: true, -1 << 40: true, 1<<40 + 2: false, 100 << 40: true,
		math.MaxInt64: false, math.MinInt64: true, math.MinInt64 + 1: false, 1 << 62: true,
		9223372036854775800: false, -9223372036854775800: false, 9223372036854775600: true, -9223372036854775600: true,
	} {
		if got := calendar.Leap(year); got != want {
			t.Errorf("Leap(%d) = %v", year, got)
		}
	}
}

// P3.1: lengths of months, of years with and without dates, and of months that there are not.
func TestLen(t *testing.T) {
	for year := -450; year <= 2500; year++ {
		for month := 1; month <= 12; month++ {
			if got, want := calendar.Len(year, month), date(year, month+1, 0).Day(); got != want {
				t.Errorf("Len(%d, %d) = %d, want %d", year, month, got, want)
			}
		}
	}
	for _, year := range []int{math.MinInt64, math.MaxInt64, 1 << 62} {
		for month, want := range []int{0, 31, 28, 31, 30, 31, 30, 31, 31, 30, 31, 30, 31, 0} {
			if month == 2 && year != math.MaxInt64 {
				want++
			}
			if got := calendar.Len(year, month); got != want {
				t.Errorf("Len(%d, %d) = %d, want %d", year, month, got, want)
			}
		}
	}
	for _, month := range []int{0, -1, -2, -12, 13, 14, 24, 1<<32 + 1, 1<<32 + 2, math.MaxInt64, math.MinInt64, math.MinInt64 + 2} {
		for _, year := range []int{0, 1900, 2000, 2023, -4, math.MaxInt64, math.MinInt64} {
			if got := calendar.Len(year, month); got != 0 {
				t.Errorf("Len(%d, %d) = %d", year, month, got)
			}
		}
	}
}

// P3.2, P3.7: every date, in both directions.
func TestAllDates(t *testing.T) {
	for day := range api.MaxDay {
		d := civil(day)
		year, month, m, e := calendar.YMD(day)
		if year != d.Year() || month != int(d.Month()) || m != d.Day() || e != api.OK {
			t.Errorf("YMD(%d) = %d, %d, %d, error %d; want %v", day, year, month, m, e, d)
		}
		expect(t, ok(day), of(calendar.Day(d.Year(), int(d.Month()), d.Day())), "Day of", d)
	}
}

// P3.2: days around every month and year, whether there are such dates or not.
func TestDay(t *testing.T) {
	for year := 1890; year <= 2090; year++ {
		for month := -1; month <= 14; month++ {
			for d := -1; d <= 33; d++ {
				want := failed(api.ErrArg)
				civil := date(year, month, d)
				if day, is := number(civil); is && civil.Year() == year && int(civil.Month()) == month && civil.Day() == d {
					want = ok(day)
				}
				expect(t, want, of(calendar.Day(year, month, d)), "Day", year, month, d)
			}
		}
	}
	expect(t, ok(36583), of(calendar.Day(2000, 2, 29)), "29 February 2000")
	expect(t, ok(65535), of(calendar.Day(2079, 6, 6)), "6 June 2079")
	expect(t, ok(0), of(calendar.Day(1900, 1, 1)), "1 January 1900")
}

// P3.2: years, months and days far from all dates, some of which come back to dates when they overflow.
func TestFarDays(t *testing.T) {
	far := []int{math.MaxInt64, math.MaxInt64 - 1, math.MinInt64, math.MinInt64 + 1, 1 << 61, 1<<61 + 2000, 1<<62 + 2000, 1<<63 - 1 - 12, 1 << 32, 1<<32 + 1, 1<<32 + 2000, -2000, -1, 0, 100, 1899, 2080, 4000, 1<<16 + 2000}
	for _, n := range far {
		for month := 1; month <= 12; month++ {
			for _, d := range []int{1, 15, 28} {
				expect(t, failed(api.ErrArg), of(calendar.Day(n, month, d)), "Day", n, month, d)
			}
		}
		for _, year := range []int{1900, 2000, 2079} {
			expect(t, failed(api.ErrArg), of(calendar.Day(year, n, 1)), "Day", year, n, 1)
			expect(t, failed(api.ErrArg), of(calendar.Day(year, 1, n)), "Day", year, 1, n)
		}
	}
}

// P3.2: parts of numbers that are no dates.
func TestNoYMD(t *testing.T) {
	for _, day := range noDates() {
		if year, month, d, e := calendar.YMD(day); year != 0 || month != 0 || d != 0 || e != api.ErrArg {
			t.Errorf("YMD(%d) = %d, %d, %d, error %d", day, year, month, d, e)
		}
	}
}

// P3.5: days of the week of all dates, and of what is none.
func TestWeekday(t *testing.T) {
	for day := range api.MaxDay {
		want := int(civil(day).Weekday())
		if want == 0 {
			want = 7
		}
		expect(t, ok(want), of(calendar.Weekday(day)), "Weekday", day)
	}
	expect(t, ok(1), of(calendar.Weekday(0)), "the first Monday")
	expect(t, ok(2), of(calendar.Weekday(36583)), "a Tuesday")
	for _, day := range noDates() {
		expect(t, failed(api.ErrArg), of(calendar.Weekday(day)), "Weekday", day)
	}
}
