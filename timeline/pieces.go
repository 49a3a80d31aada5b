package timeline

import (
	"annuitant/api"
	"annuitant/frac"
)

// pieces.go: values and pieces of steps, of which timelines are put together.

// maxCount is the greatest number of days or of months that is a value.
const maxCount = 1 << 20

// noKind is the kind of what stands for no value; no valid value has it.
const noKind uint8 = 0

// isInt reports whether a value has an I from least to most, and no F.
func isInt(v api.Value, least, most int) bool {
	return least <= v.I && v.I <= most && frac.Same(v.F, api.Frac{})
}

// copied returns a copy of a value that shares no memory with it.
func copied(v api.Value) api.Value {
	v.F.N.Limbs = append([]uint16(nil), v.F.N.Limbs...)
	v.F.D.Limbs = append([]uint16(nil), v.F.D.Limbs...)
	return v
}

// isSpan reports whether the days from from to to - 1 are a span, maybe empty.
func isSpan(from, to int) bool {
	return 0 <= from && from <= to && to <= api.MaxDay
}

// days returns the span of a step.
func days(s api.Step) api.Span {
	return api.Span{From: s.From, To: s.To}
}

// follows reports whether a step may be the next one after another.
func follows(last, s api.Step) bool {
	return last.To <= s.From && last.V.Kind == s.V.Kind && !continues(last, s)
}

// continues reports whether a step begins where another one ends, with the same
// value: in a timeline, the two are one step.
func continues(last, s api.Step) bool {
	return last.To == s.From && Same(last.V, s.V)
}

// clip returns the piece of a step within a span; it is empty, its To maybe
// less than its From, if they have no day in common.
func clip(s api.Step, from, to int) api.Step {
	return api.Step{From: max(s.From, from), To: min(s.To, to), V: s.V}
}

// collect appends pieces to a timeline. They come after all of its steps, in
// increasing order; those that are empty or have no value are left out.
func collect(l []api.Step, pieces ...api.Step) []api.Step {
	for _, p := range pieces {
		last := len(l) - 1
		switch {
		case p.From >= p.To || p.V.Kind == noKind:
		case last >= 0 && continues(l[last], p):
			l[last].To = p.To
		default:
			p.V = copied(p.V)
			l = append(l, p)
		}
	}
	return l
}

// addDays adds the value of a step, once for each of its days, to a sum.
func addDays(sum api.Frac, s api.Step) (api.Frac, api.Errno) {
	product, e := frac.Mul(s.V.F, frac.FromInt(s.To-s.From))
	if e != api.OK {
		return api.Frac{}, e
	}
	return frac.Add(sum, product)
}

// stretches yields, in increasing order, the spans of days on which neither of
// two timelines changes: the piece of a, and that of b. The two pieces have the
// same days; the value of one is of no kind if its timeline has none there.
func stretches(a, b []api.Step) func(yield func(inA, inB api.Step) bool) {
	return func(yield func(inA, inB api.Step) bool) {
		restA, restB, day := a, b, 0
		for len(restA) > 0 || len(restB) > 0 {
			to := min(nextChange(restA, day), nextChange(restB, day))
			if !yield(piece(restA, day, to), piece(restB, day, to)) {
				return
			}
			day = to
			restA, restB = after(restA, day), after(restB, day)
		}
	}
}

// after returns the steps of a timeline that do not end before a day.
func after(l []api.Step, day int) []api.Step {
	for len(l) > 0 && l[0].To <= day {
		l = l[1:]
	}
	return l
}

// nextChange returns the first day after day at which a step begins or ends, of
// steps that do not end before day; if there are none, a day after all others.
func nextChange(l []api.Step, day int) int {
	switch {
	case len(l) == 0:
		return api.MaxDay
	case day < l[0].From:
		return l[0].From
	}
	return l[0].To
}

// piece returns the piece with the days from from to to - 1, on which nothing
// changes, of steps that do not end before from.
func piece(l []api.Step, from, to int) api.Step {
	p := api.Step{From: from, To: to}
	if len(l) > 0 && l[0].From <= from {
		p.V = l[0].V
	}
	return p
}
