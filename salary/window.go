package salary

import (
	"iter"

	"annuitant/api"
	"annuitant/calendar"
	"annuitant/frac"
	"annuitant/timeline"
)

// window.go: windows of months, and the best one of them.

// window has the days of the months from month to next - 1.
type window struct {
	month, next int
	api.Span
}

// option is a possible window's first month with the window's average.
type option struct {
	month   int
	average api.Frac
}

// isLength reports whether windows may have n months.
func isLength(n int) bool {
	return 1 <= n && n <= api.MaxMonths
}

// windows yields, in increasing order, the windows of n months whose days a
// record covers.
func windows(pay []api.Step, n int) iter.Seq[window] {
	return func(yield func(window) bool) {
		for _, covered := range timeline.Covers(pay) {
			for month := firstMonth(covered.From); ; month++ {
				w, ok := windowAt(month, n)
				if !ok || w.To > covered.To {
					break
				}
				if !yield(w) {
					return
				}
			}
		}
	}
}

// firstMonth returns the first month that begins on a day or later.
func firstMonth(day int) int {
	month, _ := calendar.Month(day)
	if first, _ := calendar.First(month); first < day {
		month++
	}
	return month
}

// windowAt returns the window of n months from a month on; false if it does not
// exist.
func windowAt(month, n int) (window, bool) {
	from, e := calendar.First(month)
	to, e2 := calendar.First(month + n)
	if e != api.OK || e2 != api.OK {
		return window{}, false
	}
	return window{month, month + n, api.Span{From: from, To: to}}, true
}

// best returns the first one of the possible windows with the greatest average.
func best(l []api.Step, from, to, n int) (option, api.Errno) {
	pay, e := ask(l, from, to)
	if e != api.OK || !isLength(n) {
		return option{}, api.ErrArg
	}
	var options []option
	averageOf := averages(pay)
	for w := range windows(pay, n) {
		a, e := averageOf(w)
		if e != api.OK {
			return option{}, e
		}
		options = append(options, option{w.month, a})
	}
	o, ok := firstBest(options, func(a, b option) bool {
		return frac.Cmp(a.average, b.average) > 0
	})
	if !ok {
		return option{}, api.ErrNone
	}
	return o, api.OK
}

// firstBest returns the first element of a list than which no other one is
// better; false if there is none.
func firstBest[T any](list []T, better func(a, b T) bool) (T, bool) {
	var chosen T
	for i, x := range list {
		if i == 0 || better(x, chosen) {
			chosen = x
		}
	}
	return chosen, len(list) > 0
}
