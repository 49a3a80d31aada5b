package timeline_test

import (
	"slices"
	"testing"

	"annuitant/api"
	"annuitant/timeline"
)

// spare returns a copy of a slice with spare capacity, in which there is something.
func spare[T any](l []T, more ...T) []T {
	return append(slices.Clone(l), more...)[:len(l)]
}

// withSpare returns a deep copy of a timeline; all slices have spare capacity.
func withSpare(l []api.Step) []api.Step {
	out := spare(l, step(1, 2, number("3")), step(70, 80, number("4")))
	for i := range out {
		v := &out[i].V
		v.F.N.Limbs, v.F.D.Limbs = spare(v.F.N.Limbs, 11, 22), spare(v.F.D.Limbs, 33, 44)
	}
	return out
}

// everything returns a timeline with all that lies behind its slices.
func everything(l []api.Step) []api.Step {
	out := slices.Clone(l[:cap(l)])
	for i := range out {
		v := &out[i].V
		v.F.N.Limbs, v.F.D.Limbs = slices.Clone(v.F.N.Limbs[:cap(v.F.N.Limbs)]), slices.Clone(v.F.D.Limbs[:cap(v.F.D.Limbs)])
	}
	return out
}

// results are the slices that results contain.
type results struct {
	steps [][]api.Step
	limbs [][]uint16
	spans [][]api.Span
	days  [][]int
}

func (r *results) addFrac(f api.Frac) { r.limbs = append(r.limbs, f.N.Limbs, f.D.Limbs) }

func (r *results) addSteps(l []api.Step, e api.Errno) {
	r.steps = append(r.steps, l)
	for _, s := range l {
		r.addFrac(s.V.F)
	}
}

func (r *results) addSpans(l []api.Span, e api.Errno) { r.spans = append(r.spans, l) }

// call calls all functions; a and b are timelines of one kind.
func (r *results) call(a, b []api.Step) {
	for _, c := range [][2]int{{0, api.MaxDay}, {0, 0}, {5, 25}, {2, 3}, {3, 8}} {
		r.addSteps(timeline.Cut(a, c[0], c[1]))
		r.addSteps(timeline.Without(a, c[0], c[1]))
		sum, _ := timeline.Sum(a, c[0], c[1])
		r.addFrac(sum)
	}
	for _, pair := range [][2][]api.Step{{a, b}, {b, a}, {a, a}, {a, nil}, {nil, a}} {
		r.addSteps(timeline.Join(pair[0], pair[1]))
		r.addSpans(timeline.Diff(pair[0], pair[1]))
	}
	for _, day := range []int{0, 6, 15} {
		v, _ := timeline.At(a, day)
		r.addFrac(v.F)
	}
	r.addSpans(timeline.Covers(a), api.OK)
	r.days = append(r.days, timeline.Changes(a))
	timeline.Right(a)
	if len(a) > 0 {
		timeline.Valid(a[0].V)
		timeline.Same(a[0].V, a[0].V)
	}
}

// marked writes marks into slices and their spare capacity, one mark for each slice, and reports whether all marks remain: whether no two slices share memory.
func marked[T comparable](list [][]T, mark func(i int) T) bool {
	for i, l := range list {
		for k := range l[:cap(l)] {
			l[:cap(l)][k] = mark(i)
		}
	}
	for i, l := range list {
		for _, x := range l[:cap(l)] {
			if x != mark(i) {
				return false
			}
		}
	}
	return true
}

// markedSteps is as marked, for steps, which can not be compared.
func markedSteps(list [][]api.Step) bool {
	for i, l := range list {
		for k := range l[:cap(l)] {
			l[:cap(l)][k] = step(i, i, api.Value{})
		}
	}
	for i, l := range list {
		if slices.ContainsFunc(l[:cap(l)], func(s api.Step) bool { return s.From != i }) {
			return false
		}
	}
	return true
}

// R3: no function modifies an argument or its spare capacity, and no result shares memory with anything else.
func TestMemory(t *testing.T) {
	half := number("1/2")
	one := api.Whole{Limbs: []uint16{1}}
	shared := api.Value{Kind: api.Number, F: api.Frac{N: one, D: one}} // its limbs are one slice
	pairs := [][2][]api.Step{
		{withSpare(example()), withSpare([]api.Step{step(8, 12, half)})},
		{withSpare([]api.Step{step(0, 30, half)}), withSpare([]api.Step{step(5, 6, number("1")), step(10, 12, number("7/3"))})},
		{[]api.Step{step(0, 4, shared), step(6, 9, shared), step(12, 20, shared)}, []api.Step{step(4, 6, shared), step(8, 10, half)}},
		{withSpare(nil), withSpare(example())},
	}
	for i, pair := range pairs {
		wantA, wantB := everything(pair[0]), everything(pair[1])
		var r results
		r.call(pair[0], pair[1])
		r.call(pair[0], pair[1])
		if !marked(r.limbs, func(i int) uint16 { return uint16(50000 + i) }) || !markedSteps(r.steps) {
			t.Errorf("pair %d: results share memory", i)
		}
		if !marked(r.spans, func(i int) api.Span { return api.Span{From: i} }) || !marked(r.days, func(i int) int { return -i }) {
			t.Errorf("pair %d: results that are lists of days share memory", i)
		}
		if !equalSteps(everything(pair[0]), wantA) || !equalSteps(everything(pair[1]), wantB) {
			t.Errorf("pair %d: an argument was modified, or shares memory with a result", i)
		}
	}
}
