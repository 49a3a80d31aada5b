package calendar

import (
	"annuitant/api"
)

// month.go: days by the numbers of their months.

// areDates reports whether all days are dates.
func areDates(days ...int) bool {
	for _, day := range days {
		if day < 0 || day >= api.MaxDay {
			return false
		}
	}
	return true
}

// named returns the year and the month that a number of a month stands for.
func named(number int) (year, month int) {
	return firstYear + number/yearMonths, number%yearMonths + 1
}

// start returns the first day of the month with a number.
func start(number int) int {
	year, month := named(number)
	day := (year-firstYear)*365 + leapYears(year-1) - leapYears(firstYear-1)
	for before := 1; before < month; before++ {
		day += Len(year, before)
	}
	return day
}

// leapYears returns how many of the years from 1 to year are leap years.
func leapYears(year int) int {
	return year/4 - year/100 + year/400
}

// split returns the number of the month of a date, and its day of the month.
func split(day int) (number, d int) {
	number = last(maxMonth, func(n int) bool { return start(n) <= day })
	return number, day - start(number) + 1
}

// last returns the last one of the numbers from 0 to end - 1 that holds. Zero
// holds, and so do all numbers before one that holds.
func last(end int, holds func(n int) bool) int {
	low := 0
	for end-low > 1 {
		middle := (low + end) / 2
		if holds(middle) {
			low = middle
		} else {
			end = middle
		}
	}
	return low
}

// wholeMonths returns the number of whole months from a to b, a at most b.
func wholeMonths(a, b int) int {
	from, _ := split(a)
	to, _ := split(b)
	if later, e := Add(a, to-from); e == api.OK && later <= b {
		return to - from
	}
	return to - from - 1
}
