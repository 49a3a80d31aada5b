package table_test

import (
	"slices"
	"testing"

	"annuitant/api"
	"annuitant/table"
)

// spare returns a copy of a slice with spare capacity, in which there is something.
func spare[T any](l []T, more ...T) []T {
	return append(slices.Clone(l), more...)[:len(l)]
}

// withSpare returns a deep copy of rows; all slices have spare capacity.
func withSpare(rows []api.Row) []api.Row {
	out := spare(rows, row(9, 0, 0, 5), row(9, 0, 0, 6))
	for i := range out {
		f := &out[i].F
		f.N.Limbs, f.D.Limbs = spare(f.N.Limbs, 11, 22), spare(f.D.Limbs, 33, 44)
	}
	return out
}

// everything returns rows with all that lies behind their slices.
func everything(rows []api.Row) []api.Row {
	out := slices.Clone(rows[:cap(rows)])
	for i := range out {
		f := &out[i].F
		f.N.Limbs, f.D.Limbs = slices.Clone(f.N.Limbs[:cap(f.N.Limbs)]), slices.Clone(f.D.Limbs[:cap(f.D.Limbs)])
	}
	return out
}

// results are the slices that results contain.
type results struct {
	rows  [][]api.Row
	limbs [][]uint16
}

func (r *results) addFrac(f api.Frac) { r.limbs = append(r.limbs, f.N.Limbs, f.D.Limbs) }

func (r *results) addTable(t api.Table) {
	r.rows = append(r.rows, t.Rows)
	for _, x := range t.Rows {
		r.addFrac(x.F)
	}
}

// call calls all functions.
func (r *results) call(t api.Table, more []api.Row) {
	table.Valid(t)
	for _, known := range []int{0, 50, 100} {
		v, _ := table.View(t, known)
		r.addTable(v)
		for _, a := range []int{0, 1, 30, 70} {
			f, _ := ask(t, a, a, known)
			r.addFrac(f)
		}
	}
	for _, x := range more {
		table.Right(t.Two, x)
		l, _ := table.Learn(t, x)
		r.addTable(l)
	}
}

// marked writes marks into slices and their spare capacity, one mark for each slice, and reports whether all marks remain: whether no two slices share memory.
func marked[T any](list [][]T, mark func(i int) T, is func(x T, i int) bool) bool {
	for i, l := range list {
		for k := range l[:cap(l)] {
			l[:cap(l)][k] = mark(i)
		}
	}
	for i, l := range list {
		if slices.ContainsFunc(l[:cap(l)], func(x T) bool { return !is(x, i) }) {
			return false
		}
	}
	return true
}

// R3: no function modifies an argument or its spare capacity, and no result shares memory with anything else.
func TestMemory(t *testing.T) {
	limb := api.Whole{Limbs: []uint16{1}}
	same := api.Row{A: 1, F: api.Frac{N: limb, D: limb}} // its limbs are one slice
	later := same
	later.Known = 50
	for i, x := range []api.Table{age(), pairs(), one(), two(), one(same, same, later), two(same, later, row(30, 30, 0, 5))} {
		x.Rows = withSpare(x.Rows)
		if i > 3 {
			x.Rows[0], x.Rows[1] = same, later
		}
		more := withSpare([]api.Row{row(0, 0, 50, 70000), row(30, 0, 100, 3), row(100, 0, 0, 4)})
		more = append(more, same)
		want, wantMore := everything(x.Rows), everything(more)
		var r results
		r.call(x, more)
		r.call(x, more)
		if !marked(r.limbs, func(i int) uint16 { return uint16(40000 + i) }, func(x uint16, i int) bool { return x == uint16(40000+i) }) {
			t.Errorf("table %d: fractions share memory", i)
		}
		if !marked(r.rows, func(i int) api.Row { return api.Row{A: i} }, func(x api.Row, i int) bool { return x.A == i }) {
			t.Errorf("table %d: rows share memory", i)
		}
		if !slices.EqualFunc(everything(x.Rows), want, equalRows) || !slices.EqualFunc(everything(more), wantMore, equalRows) {
			t.Errorf("table %d or its rows are changed", i)
		}
	}
}

// R5: nil and empty slices are equivalent, also in fractions.
func TestNilAndEmpty(t *testing.T) {
	zero := api.Row{F: api.Frac{N: api.Whole{Limbs: []uint16{}}, D: api.Whole{Limbs: []uint16{1}}}}
	for _, rows := range [][]api.Row{nil, {}, make([]api.Row, 0, 5)} {
		x := api.Table{Name: "t", Rows: rows}
		if !table.Valid(x) {
			t.Error("a table without rows is not valid")
		}
		v, e := table.View(x, 5)
		expect(t, one(), api.OK, v, e, "View")
		l, e := table.Learn(x, zero)
		expect(t, one(row(0, 0, 0, 0)), api.OK, l, e, "Learn")
		f, e := table.Look(l, 0, 0)
		expectFrac(t, zero.F, api.OK, f, e, "Look")
	}
}
