package span

import "annuitant/api"

// sweep.go: two sets are combined by going through the days at which something
// changes.

// membership tells which ones of two sets have a day.
type membership struct{ a, b bool }

// isValid reports whether a span is valid.
func isValid(s api.Span) bool {
	return 0 <= s.From && s.From <= s.To && s.To <= api.MaxDay
}

func isEmpty(s api.Span) bool { return s.From == s.To }

// find returns the first span that is the one looked for; false if there is
// none. It asks about the spans in their order, and about none after that one.
func find(l []api.Span, is func(api.Span) bool) (api.Span, bool) {
	for _, s := range l {
		if is(s) {
			return s, true
		}
	}
	return api.Span{}, false
}

// changes yields, in increasing order, the days at which membership in one of
// two sets changes, with the membership from that day on.
func changes(a, b []api.Span) func(yield func(int, membership) bool) {
	return func(yield func(int, membership) bool) {
		i, j := 0, 0 // of the bounds of a and of b, those that have been passed
		for i < 2*len(a) || j < 2*len(b) {
			nextA, nextB := bound(a, i), bound(b, j)
			day := min(nextA, nextB)
			if nextA == day {
				i++
			}
			if nextB == day {
				j++
			}
			if !yield(day, membership{i%2 == 1, j%2 == 1}) {
				return
			}
		}
	}
}

// bound returns the bound number i of a set: the From of a span if i is even,
// its To if i is odd, and after the last one a day that comes after all others.
func bound(l []api.Span, i int) int {
	switch {
	case i >= 2*len(l):
		return api.MaxDay + 1
	case i%2 == 0:
		return l[i/2].From
	}
	return l[i/2].To
}

// combine returns the set of the days that are wanted by their membership in a
// and b; days of neither are not wanted. It returns ErrArg if one is not a set.
func combine(a, b []api.Span, wanted func(membership) bool) ([]api.Span, api.Errno) {
	if !Valid(a) || !Valid(b) {
		return nil, api.ErrArg
	}
	var l []api.Span
	from, open := 0, false
	for day, has := range changes(a, b) {
		want := wanted(has)
		if want && !open {
			from = day
		}
		if open && !want {
			l = append(l, api.Span{From: from, To: day})
		}
		open = want
	}
	return l, api.OK
}

// gather returns the set of the days of valid spans. It halves the spans, so
// that each one takes part in few unions.
func gather(l []api.Span) []api.Span {
	if len(l) == 0 || len(l) == 1 && isEmpty(l[0]) {
		return nil
	}
	if len(l) == 1 {
		return []api.Span{l[0]}
	}
	half := len(l) / 2
	all, _ := Union(gather(l[:half]), gather(l[half:])) // both are sets
	return all
}
