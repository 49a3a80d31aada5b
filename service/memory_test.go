package service_test

import (
	"slices"
	"testing"

	"annuitant/api"
	"annuitant/service"
	"annuitant/whole"
)

// spare returns a copy of a slice with spare capacity, in which there is something.
func spare[T any](l []T, more ...T) []T {
	return append(slices.Clone(l), more...)[:len(l)]
}

// fracWithSpare returns a copy of a fraction; both slices have spare capacity.
func fracWithSpare(f api.Frac) api.Frac {
	return api.Frac{N: api.Whole{Neg: f.N.Neg, Limbs: spare(f.N.Limbs, 11, 22)}, D: api.Whole{Neg: f.D.Neg, Limbs: spare(f.D.Limbs, 33, 44)}}
}

// withSpare returns a deep copy of a record; all slices have spare capacity.
func withSpare(l []api.Step) []api.Step {
	out := spare(l, step(5000, 5001, of("1")), step(5002, 5003, of("1/2")))
	for i := range out {
		out[i].V.F = fracWithSpare(out[i].V.F)
	}
	return out
}

// fullFrac returns a copy of a fraction with all that lies behind its slices.
func fullFrac(f api.Frac) api.Frac {
	return api.Frac{N: api.Whole{Neg: f.N.Neg, Limbs: slices.Clone(f.N.Limbs[:cap(f.N.Limbs)])}, D: api.Whole{Neg: f.D.Neg, Limbs: slices.Clone(f.D.Limbs[:cap(f.D.Limbs)])}}
}

// everything returns a record with all that lies behind its slices.
func everything(l []api.Step) []api.Step {
	out := slices.Clone(l[:cap(l)])
	for i := range out {
		out[i].V.F = fullFrac(out[i].V.F)
	}
	return out
}

// equalSteps reports whether two steps are equal.
func equalSteps(a, b api.Step) bool {
	return a.From == b.From && a.To == b.To && a.V.Kind == b.V.Kind && a.V.I == b.V.I && same(a.V.F, b.V.F)
}

// results are the slices that results contain.
type results struct {
	spans [][]api.Span
	limbs [][]uint16
}

func (r *results) addFrac(f api.Frac, _ api.Errno) { r.limbs = append(r.limbs, f.N.Limbs, f.D.Limbs) }

func (r *results) addSet(l []api.Span, _ api.Errno) { r.spans = append(r.spans, l) }

// call calls all functions.
func (r *results) call(l []api.Step, limits []api.Frac) {
	service.Right(l)
	for _, c := range [][2]int{{0, 300}, {50, 220}, {100, 120}, {0, 1}, {20, 20}, {30, 20}} {
		r.addFrac(service.Years(l, c[0], c[1]))
		for _, most := range limits {
			r.addFrac(service.Capped(l, c[0], c[1], most))
		}
		r.addSet(service.Worked(l, c[0], c[1]))
		r.addSet(service.Breaks(l, c[0], c[1]))
		r.addSet(service.Periods(l, c[0], c[1], 0))
		r.addSet(service.Periods(l, c[0], c[1], 100))
	}
	for _, f := range limits {
		service.Months(f)
	}
}

// marked writes marks into slices and their spare capacity, one mark for each slice, and reports whether all marks remain: whether no two slices share memory.
func marked[T comparable](list [][]T, mark func(i int) T) bool {
	for i, l := range list {
		for k := range l[:cap(l)] {
			l[:cap(l)][k] = mark(i)
		}
	}
	for i, l := range list {
		if slices.ContainsFunc(l[:cap(l)], func(x T) bool { return x != mark(i) }) {
			return false
		}
	}
	return true
}

// R3: no function modifies an argument or its spare capacity, and no result shares memory with anything else.
func TestMemory(t *testing.T) {
	for i, x := range [][]api.Step{example(), nil, {step(0, 300, of("1"))}, {step(0, 1, of("0")), step(1, 7, of("1/2")), step(7, 8, of("0")), step(9, 11, of("1"))}} {
		l := withSpare(x)
		limits := []api.Frac{fracWithSpare(of("0")), fracWithSpare(of("1/1000")), fracWithSpare(of("1/5")), fracWithSpare(of("5000")), fracWithSpare(api.Frac{N: whole.FromInt(1), D: whole.FromInt(1)})}
		want, wantLimits := everything(l), slices.Clone(limits)
		for k := range limits {
			wantLimits[k] = fullFrac(limits[k])
		}
		var r results
		r.call(l, limits)
		r.call(l, limits)
		if !marked(r.limbs, func(i int) uint16 { return uint16(40000 + i) }) {
			t.Errorf("record %d: fractions share memory", i)
		}
		if !marked(r.spans, func(i int) api.Span { return api.Span{From: i} }) {
			t.Errorf("record %d: sets share memory", i)
		}
		if !slices.EqualFunc(everything(l), want, equalSteps) {
			t.Errorf("record %d is changed", i)
		}
		for k := range limits {
			if !same(fullFrac(limits[k]), wantLimits[k]) {
				t.Errorf("the limit %d is changed", k)
			}
		}
	}
}

// R5: nil and empty slices are equivalent, also in fractions.
func TestNilAndEmpty(t *testing.T) {
	zero := api.Frac{N: api.Whole{Limbs: []uint16{}}, D: api.Whole{Limbs: []uint16{1}}}
	for _, l := range [][]api.Step{nil, {}, make([]api.Step, 0, 5), {step(3, 9, zero)}, {step(3, 9, of("0"))}} {
		if !service.Right(l) {
			t.Errorf("%v is no record", l)
		}
		got, e := service.Years(l, 0, 20)
		expectYears(t, rat(of("0")), got, e, "Years", l)
		got, e = service.Capped(l, 0, 20, zero)
		expectYears(t, rat(of("0")), got, e, "Capped", l)
		for _, ask := range []func([]api.Step, int, int) ([]api.Span, api.Errno){service.Worked, service.Breaks} {
			days, e := ask(l, 0, 20)
			expectSet(t, nil, days, e, "days", l)
		}
	}
	expectMonths(t, 0, api.OK, zero)
	if l := []api.Step{step(0, 5, zero), step(5, 9, of("0"))}; service.Right(l) {
		t.Error("two steps with 0 are not one step")
	}
}
