package salary

import (
	"sort"

	"annuitant/api"
	"annuitant/frac"
	"annuitant/timeline"
)

// pay.go: pay records, and sums and averages of their days.

// ask returns what a pay record says of the days asked for; ErrArg if the
// record or these days are not valid.
func ask(l []api.Step, from, to int) ([]api.Step, api.Errno) {
	if !isBound(from) || !isBound(to) || !Right(l) {
		return nil, api.ErrArg
	}
	return timeline.Cut(l, from, max(from, to))
}

// isBound reports whether a number may be the first day asked for, or the day
// after the last one.
func isBound(day int) bool {
	return 0 <= day && day <= api.MaxDay
}

// part returns the steps that have days of a span. It shares memory with the
// record.
func part(pay []api.Step, days api.Span) []api.Step {
	from := sort.Search(len(pay), func(i int) bool { return pay[i].To > days.From })
	to := sort.Search(len(pay), func(i int) bool { return pay[i].From >= days.To })
	return pay[from:to]
}

// sum returns the sum of the pay of some days. It passes on only the steps with
// these days, since timeline.Sum checks all that it is given.
func sum(pay []api.Step, days api.Span) (api.Frac, api.Errno) {
	return timeline.Sum(part(pay, days), days.From, days.To)
}

// average returns the average pay of some days, which are covered.
func average(pay []api.Step, days api.Span) (api.Frac, api.Errno) {
	total, e := sum(pay, days)
	if e != api.OK {
		return api.Frac{}, e
	}
	return mean(total, days)
}

// mean divides the sum of the pay of some days by their number.
func mean(total api.Frac, days api.Span) (api.Frac, api.Errno) {
	return frac.Div(total, frac.FromInt(days.To-days.From))
}

// averages returns a function from possible windows of a record to their
// averages. Where nothing can be too long, a difference of two totals is the sum
// of a window, so that each day is added only once and not for each window.
func averages(pay []api.Step) func(w window) (api.Frac, api.Errno) {
	if !isShort(pay) {
		return func(w window) (api.Frac, api.Errno) { return average(pay, w.Span) }
	}
	before := totals(pay)
	return func(w window) (api.Frac, api.Errno) {
		total, e := frac.Sub(before[w.next], before[w.month])
		if e != api.OK {
			return api.Frac{}, e
		}
		return mean(total, w.Span)
	}
}

// isShort reports whether no sum of pay, and no average, can be too long. Over a
// common denominator of all amounts, the numerator of an amount has at most
// surplus + 1 limbs more than the denominator, and that of a sum one more, since
// there are at most 65536 days.
func isShort(pay []api.Step) bool {
	common, surplus := frac.FromInt(1), 0
	for _, s := range pay {
		rest, e := frac.Div(common, wholeFrac(s.V.F.D))
		if e != api.OK {
			return false
		}
		if common, e = frac.Mul(common, wholeFrac(rest.D)); e != api.OK {
			return false
		}
		surplus = max(surplus, len(s.V.F.N.Limbs)-len(s.V.F.D.Limbs))
	}
	return len(common.N.Limbs)+surplus+2 <= api.MaxLimbs
}

// wholeFrac returns a whole number as a fraction. It shares memory with n.
func wholeFrac(n api.Whole) api.Frac {
	return api.Frac{N: n, D: frac.FromInt(1).D}
}

// totals returns, for each month that is covered, and for the one after it, the
// pay of all months before it that are covered. Nothing is too long.
func totals(pay []api.Step) map[int]api.Frac {
	before, total := map[int]api.Frac{}, frac.FromInt(0)
	for w := range windows(pay, 1) {
		before[w.month] = total
		month, _ := sum(pay, w.Span)
		total, _ = frac.Add(total, month)
		before[w.next] = total
	}
	return before
}
