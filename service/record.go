package service

import (
	"slices"

	"annuitant/api"
	"annuitant/frac"
	"annuitant/timeline"
	"annuitant/whole"
)

// record.go: a service record and the days that are asked for.

// asked is a service record with the days asked for, whose From and To are promoted.
type asked struct {
	api.Span
	record []api.Step
}

// ask returns a record with the days asked for; ErrArg if one of them is not valid.
// Where there are no days, it returns an empty span.
func ask(l []api.Step, from, to int) (asked, api.Errno) {
	if !isBound(from) || !isBound(to) || !Right(l) {
		return asked{}, api.ErrArg
	}
	return asked{api.Span{From: from, To: max(from, to)}, l}, api.OK
}

// isBound reports whether a number may be the first day asked for, or the day
// after the last one.
func isBound(day int) bool {
	return 0 <= day && day <= api.MaxDay
}

// worked returns the set of the days asked for that are worked.
func (a asked) worked() []api.Span {
	part, _ := timeline.Cut(a.record, a.From, a.To)
	return timeline.Covers(slices.DeleteFunc(part, func(s api.Step) bool {
		return whole.Cmp(s.V.F.N, whole.FromInt(0)) == 0
	}))
}

// dayInYears returns the length of a day in years of 365 1/4 days.
func dayInYears() api.Frac {
	f, _ := frac.Make(whole.FromInt(4), whole.FromInt(1461))
	return f
}

// isAmount reports whether a fraction is valid and not negative.
func isAmount(f api.Frac) bool {
	return frac.Valid(f) && !f.N.Neg
}

// copied returns a copy of a fraction that shares no memory with it.
func copied(f api.Frac) api.Frac {
	f.N.Limbs = slices.Clone(f.N.Limbs)
	f.D.Limbs = slices.Clone(f.D.Limbs)
	return f
}
