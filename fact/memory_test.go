package fact_test

import (
	"slices"
	"testing"

	"annuitant/api"
	"annuitant/fact"
)

// spare returns a copy of a slice with spare capacity, in which there is something.
func spare[T any](l []T, more ...T) []T {
	return append(slices.Clone(l), more...)[:len(l)]
}

// withSpare returns a deep copy of facts; all slices have spare capacity.
func withSpare(l []api.Fact) []api.Fact {
	out := spare(l, is("x", 1, 2, 3, number("3")), gone("fte", 0, 100, 5))
	for i := range out {
		f := &out[i].V.F
		f.N.Limbs, f.D.Limbs = spare(f.N.Limbs, 11, 22), spare(f.D.Limbs, 33, 44)
	}
	return out
}

// everything returns facts with all that lies behind their slices.
func everything(l []api.Fact) []api.Fact {
	out := slices.Clone(l[:cap(l)])
	for i := range out {
		f := &out[i].V.F
		f.N.Limbs, f.D.Limbs = slices.Clone(f.N.Limbs[:cap(f.N.Limbs)]), slices.Clone(f.D.Limbs[:cap(f.D.Limbs)])
	}
	return out
}

// equalFacts reports whether facts are equal.
func equalFacts(a, b []api.Fact) bool {
	return slices.EqualFunc(a, b, func(f, g api.Fact) bool {
		v, w := f.V, g.V
		f.V, g.V = api.Value{}, api.Value{}
		return f.Key == g.Key && f.From == g.From && f.To == g.To && f.Known == g.Known && f.Gone == g.Gone && equal(v, w)
	})
}

// results are the slices that results contain.
type results struct {
	steps [][]api.Step
	limbs [][]uint16
	spans [][]api.Span
	days  [][]int
	keys  [][]string
}

func (r *results) addValue(v api.Value) { r.limbs = append(r.limbs, v.F.N.Limbs, v.F.D.Limbs) }

// call calls all functions.
func (r *results) call(l []api.Fact) {
	fact.Valid(l)
	r.keys = append(r.keys, fact.Keys(l))
	for _, key := range []string{"fte", "b", "none"} {
		fact.Kind(l, key)
		r.days = append(r.days, fact.Learns(l, key))
		for _, k := range []int{0, 10, 50, 80} {
			steps, _ := fact.View(l, key, k)
			r.steps = append(r.steps, steps)
			for _, s := range steps {
				r.addValue(s.V)
			}
			spans, _ := fact.Diff(l, key, 10, k)
			r.spans = append(r.spans, spans)
			for _, day := range []int{0, 45, 60} {
				v, _ := fact.At(l, key, day, k)
				r.addValue(v)
			}
		}
	}
	for _, f := range l {
		fact.Right(f)
	}
}

// marked writes marks into slices and their spare capacity, one mark for each slice, and reports whether all marks remain: whether no two slices share memory.
func marked[T any](list [][]T, mark func(i int) T, is func(x T, i int) bool) bool {
	for i, l := range list {
		for k := range l[:cap(l)] {
			l[:cap(l)][k] = mark(i)
		}
	}
	for i, l := range list {
		if slices.ContainsFunc(l[:cap(l)], func(x T) bool { return !is(x, i) }) {
			return false
		}
	}
	return true
}

// R3: no function modifies an argument or its spare capacity, and no result shares memory with anything else.
func TestMemory(t *testing.T) {
	one := api.Whole{Limbs: []uint16{1}}
	shared := api.Value{Kind: api.Number, F: api.Frac{N: one, D: one}} // its limbs are one slice
	for i, l := range [][]api.Fact{
		withSpare(example()), withSpare(nil),
		withSpare([]api.Fact{is("b", 0, 50, 9, money("70000/70001")), is("fte", 5, 80, 10, number("1/3")), is("fte", 30, 31, 0, number("7")), gone("b", 3, 4, 50), is("b", 40, 70, 50, money("-1"))}),
		{is("fte", 0, 100, 50, shared), is("fte", 20, 25, 60, number("1/2")), is("fte", 200, 300, 10, shared), is("b", 0, 50, 0, shared)},
	} {
		want := everything(l)
		var r results
		r.call(l)
		r.call(l)
		if !marked(r.limbs, func(i int) uint16 { return uint16(40000 + i) }, func(x uint16, i int) bool { return x == uint16(40000+i) }) {
			t.Errorf("record %d: values share memory", i)
		}
		if !marked(r.steps, func(i int) api.Step { return step(i, i, api.Value{}) }, func(x api.Step, i int) bool { return x.From == i }) {
			t.Errorf("record %d: steps share memory", i)
		}
		if !marked(r.spans, func(i int) api.Span { return api.Span{From: i} }, func(x api.Span, i int) bool { return x.From == i }) ||
			!marked(r.days, func(i int) int { return -i }, func(x, i int) bool { return x == -i }) ||
			!marked(r.keys, func(i int) string { return string(rune(1000 + i)) }, func(x string, i int) bool { return x == string(rune(1000+i)) }) {
			t.Errorf("record %d: lists share memory", i)
		}
		if !equalFacts(everything(l), want) {
			t.Errorf("record %d is changed", i)
		}
	}
}

// R5: nil and empty slices are equivalent, also in values.
func TestNilAndEmpty(t *testing.T) {
	zero := number("0")
	zero.F.N.Limbs = []uint16{}
	l := []api.Fact{is("a", 0, 10, 0, zero), is("a", 5, 20, 1, number("0")), is("a", 3, 8, 2, number("1"))}
	got, e := fact.View(l, "a", 1)
	expect(t, []api.Step{step(0, 20, number("0"))}, got, e, "View")
	expectList(t, []int{0, 1, 2}, fact.Learns(l, "a"), "Learns")
	got, e = fact.View([]api.Fact{}, "a", 1)
	expect(t, nil, got, e, "View of nothing")
	v, ok := fact.At(nil, "a", 0, 0)
	expectValue(t, api.Value{}, false, v, ok, "At nothing")
	if !fact.Valid(nil) || !fact.Valid([]api.Fact{}) {
		t.Error("nothing is no record")
	}
}
