package salary_test

import (
	"slices"
	"testing"

	"annuitant/api"
	"annuitant/salary"
)

// spare returns a copy of a slice with spare capacity, in which there is something.
func spare[T any](l []T, more ...T) []T {
	return append(slices.Clone(l), more...)[:len(l)]
}

// withSpare returns a deep copy of a record; all slices have spare capacity.
func withSpare(l []api.Step) []api.Step {
	out := spare(l, paid(5000, 5001, of("1")), paid(5002, 5003, of("1/2")))
	for i, s := range out {
		out[i].V.F = api.Frac{
			N: api.Whole{Neg: s.V.F.N.Neg, Limbs: spare(s.V.F.N.Limbs, 11, 22)},
			D: api.Whole{Neg: s.V.F.D.Neg, Limbs: spare(s.V.F.D.Limbs, 33, 44)},
		}
	}
	return out
}

// everything returns a record with all that lies behind its slices.
func everything(l []api.Step) []api.Step {
	out := slices.Clone(l[:cap(l)])
	for i, s := range out {
		n, d := s.V.F.N.Limbs, s.V.F.D.Limbs
		out[i].V.F.N.Limbs, out[i].V.F.D.Limbs = slices.Clone(n[:cap(n)]), slices.Clone(d[:cap(d)])
	}
	return out
}

// equalSteps reports whether two steps are equal.
func equalSteps(a, b api.Step) bool {
	return a.From == b.From && a.To == b.To && a.V.Kind == b.V.Kind && a.V.I == b.V.I && same(a.V.F, b.V.F)
}

// results are the slices that results contain.
type results struct {
	months [][]int
	limbs  [][]uint16
}

func (r *results) addFrac(f api.Frac, _ api.Errno) { r.limbs = append(r.limbs, f.N.Limbs, f.D.Limbs) }

func (r *results) addMonths(l []int, _ api.Errno) { r.months = append(r.months, l) }

// call calls all functions.
func (r *results) call(l []api.Step) {
	salary.Right(l)
	for _, c := range [][3]int{{0, 120, 1}, {0, 120, 4}, {31, 90, 1}, {0, 31, 1}, {0, 1, 1}, {20, 20, 1}, {30, 20, 1}, {125, 200, 1}, {0, api.MaxDay, 2}} {
		r.addFrac(salary.Average(l, c[0], c[1]))
		r.addMonths(salary.Windows(l, c[0], c[1], c[2]))
		r.addFrac(salary.Best(l, c[0], c[1], c[2]))
		salary.When(l, c[0], c[1], c[2])
	}
}

// marked writes marks into slices and their spare capacity, one mark for each slice, and reports whether all marks remain: whether no two slices share memory.
func marked[T comparable](list [][]T, mark func(i int) T) bool {
	for i, l := range list {
		for k := range l[:cap(l)] {
			l[:cap(l)][k] = mark(i)
		}
	}
	for i, l := range list {
		if slices.ContainsFunc(l[:cap(l)], func(x T) bool { return x != mark(i) }) {
			return false
		}
	}
	return true
}

// R3: no function modifies an argument or its spare capacity, and no result shares memory with anything else.
func TestMemory(t *testing.T) {
	for i, x := range append(longs(), example(), nil, []api.Step{paid(0, 300, of("1"))}, []api.Step{paid(0, 1, of("0")), paid(1, 70, of("1/2")), paid(70, 120, of("-7/3"))}) {
		l := withSpare(x)
		want := everything(l)
		var r results
		r.call(l)
		r.call(l)
		if !marked(r.limbs, func(i int) uint16 { return uint16(40000 + i) }) {
			t.Errorf("record %d: fractions share memory", i)
		}
		if !marked(r.months, func(i int) int { return -i }) {
			t.Errorf("record %d: lists of months share memory", i)
		}
		if !slices.EqualFunc(everything(l), want, equalSteps) {
			t.Errorf("record %d is changed", i)
		}
	}
}

// R5: nil and empty slices are equivalent, also in fractions.
func TestNilAndEmpty(t *testing.T) {
	zero := api.Frac{N: api.Whole{Limbs: []uint16{}}, D: api.Whole{Limbs: []uint16{1}}}
	for _, l := range [][]api.Step{nil, {}, make([]api.Step, 0, 5)} {
		if !salary.Right(l) {
			t.Errorf("%v is no record", l)
		}
		average, e := salary.Average(l, 0, 31)
		expectError(t, api.ErrNone, average, e, "Average of nothing")
		average, e = salary.Best(l, 0, api.MaxDay, 1)
		expectError(t, api.ErrNone, average, e, "Best of nothing")
		month, e := salary.When(l, 0, api.MaxDay, 1)
		expectWhen(t, 0, api.ErrNone, month, e, "When of nothing")
		months, e := salary.Windows(l, 0, api.MaxDay, 1)
		expectMonths(t, nil, months, e, "Windows of nothing")
	}
	for _, l := range [][]api.Step{{paid(0, 90, zero)}, {paid(0, 90, of("0"))}} {
		average, e := salary.Average(l, 5, 31)
		expectFrac(t, rat(of("0")), average, e, "Average of 0")
		average, e = salary.Best(l, 0, api.MaxDay, 2)
		expectFrac(t, rat(of("0")), average, e, "Best of 0")
		month, e := salary.When(l, 1, api.MaxDay, 2)
		expectWhen(t, 1, api.OK, month, e, "When of 0")
	}
	if l := []api.Step{paid(0, 5, zero), paid(5, 9, of("0"))}; salary.Right(l) {
		t.Error("two steps with 0 are not one step")
	}
}
