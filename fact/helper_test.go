package fact_test

import (
	"math"
	"math/rand"
	"slices"
	"strings"
	"testing"

	"annuitant/api"
	"annuitant/frac"
)

// number returns the value that is the number with a text.
func number(text string) api.Value {
	f, e := frac.Parse(text)
	if e != api.OK {
		panic(text)
	}
	return api.Value{Kind: api.Number, F: f}
}

// plain returns a value that is no fraction.
func plain(kind uint8, i int) api.Value { return api.Value{Kind: kind, I: i} }

// money returns an amount of money.
func money(text string) api.Value { return api.Value{Kind: api.Money, F: number(text).F} }

// some returns values of a kind, no two of which are the same.
func some(kind uint8) []api.Value {
	switch kind {
	case api.Number:
		return []api.Value{number("1/2"), number("1"), number("70000/70001")}
	case api.Money:
		return []api.Value{money("0"), money("-5/3"), money("1")}
	case api.Truth:
		return []api.Value{plain(kind, 0), plain(kind, 1)}
	}
	return []api.Value{plain(kind, 7), plain(kind, 0), plain(kind, 3)}
}

// kinds returns the six kinds of values.
func kinds() []uint8 {
	return []uint8{api.Truth, api.Number, api.Money, api.Date, api.Days, api.Months}
}

// is returns the fact that a key has a value.
func is(key string, from, to, known int, v api.Value) api.Fact {
	return api.Fact{Key: key, From: from, To: to, Known: known, V: v}
}

// gone returns the fact that nothing is known about a key any more.
func gone(key string, from, to, known int) api.Fact {
	return api.Fact{Key: key, From: from, To: to, Known: known, Gone: true}
}

// example returns the record of the chapter's examples.
func example() []api.Fact {
	return []api.Fact{is("fte", 0, 100, 10, number("1")), is("fte", 40, 60, 50, number("1/2")), gone("fte", 50, 70, 80)}
}

// step returns a step.
func step(from, to int, v api.Value) api.Step { return api.Step{From: from, To: to, V: v} }

// last is the oracle of views: the number of the fact that decides a day, or -1. There, the order of a record is that of pairs of Known and index.
func last(l []api.Fact, key string, day, known int) int {
	best := -1
	for i, f := range l {
		if f.Key == key && f.Known <= known && f.From <= day && day < f.To && (best < 0 || f.Known >= l[best].Known) {
			best = i
		}
	}
	return best
}

// valueAt returns the value of a day in a view, and whether it has one, by the oracle.
func valueAt(l []api.Fact, key string, day, known int) (api.Value, bool) {
	if i := last(l, key, day, known); i >= 0 && !l[i].Gone {
		return l[i].V, true
	}
	return api.Value{}, false
}

// edges returns the days at which a fact begins or ends, and 0 and MaxDay, increasing: between two of them nothing changes.
func edges(l []api.Fact) []int {
	days := []int{0, api.MaxDay}
	for _, f := range l {
		days = append(days, f.From, f.To)
	}
	slices.Sort(days)
	return slices.Compact(days)
}

// viewOf returns a view by the oracle.
func viewOf(l []api.Fact, key string, known int) []api.Step {
	var out []api.Step
	days := edges(l)
	for i, day := range days[:len(days)-1] {
		v, ok := valueAt(l, key, day, known)
		switch n := len(out); {
		case !ok:
		case n > 0 && out[n-1].To == day && equal(out[n-1].V, v):
			out[n-1].To = days[i+1]
		default:
			out = append(out, step(day, days[i+1], v))
		}
	}
	return out
}

// diffOf returns the set of the days on which two views differ, by the oracle.
func diffOf(l []api.Fact, key string, k1, k2 int) []api.Span {
	var out []api.Span
	days := edges(l)
	for i, day := range days[:len(days)-1] {
		v, inV := valueAt(l, key, day, k1)
		w, inW := valueAt(l, key, day, k2)
		switch n := len(out); {
		case inV == inW && equal(v, w):
		case n > 0 && out[n-1].To == day:
			out[n-1].To = days[i+1]
		default:
			out = append(out, api.Span{From: day, To: days[i+1]})
		}
	}
	return out
}

// learnsOf returns the days on which the view changes, by the oracle.
func learnsOf(l []api.Fact, key string) []int {
	var out []int
	for _, k := range knowns(l) {
		if !equalSteps(viewOf(l, key, k), viewOf(l, key, k-1)) {
			out = append(out, k)
		}
	}
	return out
}

// knowns returns the days on which a fact became known, increasing.
func knowns(l []api.Fact) []int {
	var days []int
	for _, f := range l {
		days = append(days, f.Known)
	}
	slices.Sort(days)
	return slices.Compact(days)
}

// shape says what random records look like.
type shape struct {
	facts, days, knowns   int // there are as many facts, in a window of so many days, learned on so many days
	firstDay, firstKnown  int // the window of days, and that of days of knowledge
	keys                  []string
	gone, sorted, unequal bool // some facts are gone; the record is sorted; no two facts have the same Known
}

// random returns a record.
func (s shape) random(r *rand.Rand) []api.Fact {
	kindOf := map[string][]api.Value{}
	for _, key := range s.keys {
		kindOf[key] = some(kinds()[r.Intn(6)])
	}
	when := r.Perm(s.knowns)
	var l []api.Fact
	for i := range s.facts {
		key := s.keys[r.Intn(len(s.keys))]
		from := r.Intn(s.days)
		f := is(key, s.firstDay+from, s.firstDay+from+1+r.Intn(s.days-from), s.firstKnown+r.Intn(s.knowns), kindOf[key][r.Intn(len(kindOf[key]))])
		if s.gone && r.Intn(4) == 0 {
			f.Gone, f.V = true, api.Value{}
		}
		if s.unequal {
			f.Known = s.firstKnown + when[i]
		}
		l = append(l, f)
	}
	if s.sorted {
		slices.SortStableFunc(l, func(f, g api.Fact) int { return f.Known - g.Known })
	}
	return l
}

// shapes returns shapes of short records.
func shapes() []shape {
	var list []shape
	for n := range 9 {
		for _, keys := range [][]string{{"a"}, {"a", "b"}, {"pay", "pa", strings.Repeat("k", api.MaxName)}} {
			list = append(list, shape{facts: n, days: 6, knowns: 3, keys: keys, gone: true},
				shape{facts: n, days: 9, knowns: 9, firstDay: api.MaxDay - 9, firstKnown: api.MaxDay - 9, keys: keys, gone: true},
				shape{facts: n, days: api.MaxDay, knowns: 4, firstKnown: 5, keys: keys},
				shape{facts: n, days: 5, knowns: 1, firstDay: 30, firstKnown: 1000, keys: keys, gone: true, sorted: true})
		}
	}
	return list
}

// questions returns days of knowledge for questions about a record.
func questions(l []api.Fact) []int {
	days := []int{-1, 0, api.MaxDay - 1, api.MaxDay, math.MinInt64, math.MaxInt64, 1 << 32, -1 << 32}
	for _, k := range knowns(l) {
		days = append(days, k-1, k, k+1)
	}
	slices.Sort(days)
	return slices.Compact(days)
}

// equal reports whether two values are equal.
func equal(a, b api.Value) bool {
	same := func(a, b api.Whole) bool { return a.Neg == b.Neg && slices.Equal(a.Limbs, b.Limbs) }
	return a.Kind == b.Kind && a.I == b.I && same(a.F.N, b.F.N) && same(a.F.D, b.F.D)
}

// equalSteps reports whether slices of steps are equal.
func equalSteps(a, b []api.Step) bool {
	return slices.EqualFunc(a, b, func(a, b api.Step) bool { return a.From == b.From && a.To == b.To && equal(a.V, b.V) })
}

// short returns the beginning of a slice, to be shown.
func short[T any](l []T) []T { return l[:min(len(l), 6)] }

// expect checks that a result is a timeline, without an error.
func expect(t *testing.T, want, got []api.Step, e api.Errno, what ...any) {
	t.Helper()
	if e != api.OK || !equalSteps(got, want) {
		t.Errorf("%v = %v (%d steps), error %d; want %v (%d steps)", what, short(got), len(got), e, short(want), len(want))
	}
}

// expectValue checks that a result is a value, or none.
func expectValue(t *testing.T, want api.Value, wantOk bool, got api.Value, ok bool, what ...any) {
	t.Helper()
	if ok != wantOk || !equal(got, want) {
		t.Errorf("%v = %v, %v; want %v, %v", what, got, ok, want, wantOk)
	}
}

// expectList checks that a list of days, spans or keys is the result.
func expectList[T comparable](t *testing.T, want, got []T, what ...any) {
	t.Helper()
	if !slices.Equal(want, got) {
		t.Errorf("%v = %v (%d elements); want %v (%d elements)", what, short(got), len(got), short(want), len(want))
	}
}
