package fact

import (
	"cmp"
	"iter"
	"slices"
	"sort"

	"annuitant/api"
	"annuitant/timeline"
)

// pieces.go: the facts of a key in their order, and pieces of spans, of which views are put together.

// kinds returns the kinds of the keys of facts, 0 for a key that has no values;
// false if the facts are not a record.
func kinds(l []api.Fact) (map[string]uint8, bool) {
	if len(l) > api.MaxFacts {
		return nil, false
	}
	kindOf := map[string]uint8{}
	for _, f := range l {
		kind := kindOf[f.Key]
		if !Right(f) || !f.Gone && kind != 0 && kind != f.V.Kind {
			return nil, false
		}
		kindOf[f.Key] = max(kind, f.V.Kind)
	}
	return kindOf, true
}

// days returns the span of a fact, as a set unless it is not valid or empty.
func days(f api.Fact) []api.Span {
	return []api.Span{{From: f.From, To: f.To}}
}

// copied returns a copy of a value that shares no memory with it.
func copied(v api.Value) api.Value {
	v.F.N.Limbs = slices.Clone(v.F.N.Limbs)
	v.F.D.Limbs = slices.Clone(v.F.D.Limbs)
	return v
}

// learned yields, in the order of the record, the facts of a key that are known
// on a day.
func learned(l []api.Fact, key string, day int) iter.Seq[*api.Fact] {
	return func(yield func(f *api.Fact) bool) {
		var known []*api.Fact
		for i := range l {
			if l[i].Key == key && l[i].Known <= day {
				known = append(known, &l[i])
			}
		}
		slices.SortStableFunc(known, func(f, g *api.Fact) int { return cmp.Compare(f.Known, g.Known) })
		for _, f := range known {
			if !yield(f) {
				return
			}
		}
	}
}

// piece is a span whose days have the value of a fact. The pieces of a view are
// as the steps of a timeline; they point to facts, since values may be long.
type piece struct {
	api.Span
	fact *api.Fact
}

// equals reports whether two pieces have the same days and values.
func (p piece) equals(q piece) bool {
	return p.Span == q.Span && p.sameValue(q)
}

// sameValue reports whether two pieces have the same value.
func (p piece) sameValue(q piece) bool {
	return p.fact == q.fact || timeline.Same(p.fact.V, q.fact.V)
}

// within returns the part of a piece within a span; it is empty, its To maybe
// less than its From, if they have no day in common.
func (p piece) within(from, to int) piece {
	return piece{api.Span{From: max(p.From, from), To: min(p.To, to)}, p.fact}
}

// decide changes a view, which the next fact in the order decides for the days of
// its span.
func decide(view []piece, f *api.Fact) []piece {
	first := sort.Search(len(view), func(i int) bool { return view[i].To >= f.From })
	end := sort.Search(len(view), func(i int) bool { return view[i].From > f.To })
	touched := view[first:end] // they have days of the span, or end or begin at it
	var decided []piece
	for _, p := range touched {
		decided = collect(decided, p.within(0, f.From))
	}
	decided = collect(decided, piece{api.Span{From: f.From, To: f.To}, f})
	for _, p := range touched {
		decided = collect(decided, p.within(f.To, api.MaxDay))
	}
	return slices.Replace(view, first, end, decided...)
}

// collect appends a piece, which comes after all others, unless it is empty or
// has no value.
func collect(view []piece, p piece) []piece {
	last := len(view) - 1
	switch {
	case p.From >= p.To || p.fact.Gone:
	case last >= 0 && view[last].To == p.From && view[last].sameValue(p):
		view[last].To = p.To
	default:
		view = append(view, p)
	}
	return view
}

// steps returns the timeline of a view.
func steps(view []piece) []api.Step {
	var l []api.Step
	for _, p := range view {
		l = append(l, api.Step{From: p.From, To: p.To, V: copied(p.fact.V)})
	}
	return l
}
