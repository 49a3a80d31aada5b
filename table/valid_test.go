package table_test

import (
	"math"
	"strings"
	"testing"

	"annuitant/api"
	"annuitant/frac"
	"annuitant/table"
)

// invalidFractions returns fractions that are not valid.
func invalidFractions() []api.Frac {
	w := func(limbs ...uint16) api.Whole { return api.Whole{Limbs: limbs} }
	return []api.Frac{{}, {N: w(1)}, {D: w(0)}, {N: w(2), D: w(4)}, {D: w(2)}, {N: w(1, 0), D: w(1)}, {N: w(1), D: w(1, 0)},
		{N: api.Whole{Neg: true}, D: w(1)}, {N: w(1), D: api.Whole{Neg: true, Limbs: []uint16{1}}}, {N: api.Whole{Limbs: longLimbs(api.MaxLimbs + 1)}, D: w(1)}, {N: w(1), D: api.Whole{Limbs: longLimbs(api.MaxLimbs + 1)}}}
}

// longLimbs returns the limbs of a number.
func longLimbs(n int) []uint16 {
	limbs := make([]uint16, n)
	limbs[0], limbs[n-1] = 1, 1
	return limbs
}

// rightRows returns rows that are valid for a table with one key, and for one with two.
func rightRows() []api.Row {
	list := []api.Row{row(0, 0, 0, 0), row(5, 0, 9, -3), row(math.MinInt32, 0, 0, 1), row(math.MaxInt32, 0, 0, 1), row(1, 0, api.MaxDay-1, 1), row(1, 0, 1, math.MinInt64)}
	for _, text := range []string{"1/2", "-70000/70001", "0", "-1"} {
		list = append(list, api.Row{A: -1, F: fraction(text)})
	}
	return append(list, api.Row{F: api.Frac{N: api.Whole{Limbs: longLimbs(api.MaxLimbs)}, D: api.Whole{Limbs: []uint16{1}}}}, api.Row{F: api.Frac{N: api.Whole{Limbs: []uint16{}}, D: api.Whole{Limbs: []uint16{1}}}})
}

// wrongRows returns rows that are valid for no table.
func wrongRows() []api.Row {
	list := []api.Row{{}, {A: 1, Known: 1}, row(0, 0, -1, 1), row(0, 0, -2, 1), row(0, 0, api.MaxDay, 1), row(0, 0, api.MaxDay+1, 1)}
	for _, n := range far() {
		list = append(list, row(n, 0, 0, 1), row(0, n, 0, 1), row(n, n, 0, 1), row(0, 0, n, 1))
	}
	for _, f := range invalidFractions() {
		list = append(list, api.Row{A: 1, Known: 2, F: f})
	}
	return list
}

// P7.1: Right reports whether a row is valid for a table with one or two keys; a table of it alone is valid then.
func TestRight(t *testing.T) {
	check := func(r api.Row, wantOne, wantTwo bool) {
		t.Helper()
		if got := table.Right(false, r); got != wantOne || table.Valid(one(r)) != wantOne {
			t.Errorf("Right(false, %v) = %v, want %v; Valid = %v", r, got, wantOne, table.Valid(one(r)))
		}
		if got := table.Right(true, r); got != wantTwo || table.Valid(two(r)) != wantTwo {
			t.Errorf("Right(true, %v) = %v, want %v; Valid = %v", r, got, wantTwo, table.Valid(two(r)))
		}
	}
	for _, r := range rightRows() {
		check(r, true, true)
		for _, b := range []int{1, -1, math.MinInt32, math.MaxInt32} {
			r.B = b
			check(r, false, true)
		}
	}
	for _, r := range wrongRows() {
		check(r, false, false)
	}
}

// invalid returns tables that are not valid.
func invalid() []api.Table {
	list := []api.Table{{}, {Two: true}, {Rows: []api.Row{row(0, 0, 0, 1)}}, one(row(0, 1, 0, 1)), one(row(0, 0, 0, 1), row(1, -1, 0, 1))}
	for _, name := range []string{"", strings.Repeat("n", api.MaxName+1), strings.Repeat("n", 1000), strings.Repeat("é", 13), strings.Repeat("\x00", 25)} {
		list = append(list, api.Table{Name: name}, api.Table{Name: name, Two: true, Rows: []api.Row{row(0, 0, 0, 1)}})
	}
	for _, r := range wrongRows() {
		list = append(list, one(r), two(r), one(r, row(math.MaxInt32, 0, 0, 1)), two(row(math.MinInt32, 0, 0, 1), r), one(row(math.MinInt32, 0, 0, 1), r, row(math.MaxInt32, 0, 0, 1)))
	}
	for _, r := range []api.Row{row(5, 6, 7, 1), row(5, 7, 0, 1), row(6, -1, 0, 1), row(math.MaxInt32, math.MinInt32, 0, 1)} { // after 5, 6, 6
		list = append(list, two(r, row(5, 6, 6, 1)), two(row(0, 0, 0, 1), r, row(5, 6, 6, 1), row(math.MaxInt32, math.MaxInt32, 9, 1)))
		if r.B = 0; r.A > 5 {
			list = append(list, one(r, row(5, 0, 6, 1)))
		}
	}
	list = append(list, one(row(5, 0, 7, 1), row(5, 0, 6, 1)), one(row(5, 0, 0, 1), row(5, 0, 7, 1), row(5, 0, 6, 1)), one(row(5, 0, 5, 1), row(5, 0, 7, 1), row(5, 0, 0, 1)), one(row(0, 0, 0, 1), row(-1, 0, 0, 1)))
	return append(list, many(api.MaxRows+1, false), many(api.MaxRows+1, true), many(2*api.MaxRows, true), one(make([]api.Row, api.MaxRows+1)...))
}

// many returns a table with n rows.
func many(n int, two bool) api.Table {
	t := api.Table{Name: "many", Two: two}
	for i := range n {
		t.Rows = append(t.Rows, row(i/4, 0, i%4, i))
		if two {
			t.Rows[i].B = i / 2 % 2
		}
	}
	return t
}

// valid returns tables that are valid.
func valid() []api.Table {
	list := []api.Table{age(), pairs(), one(), two(), many(api.MaxRows, false), many(api.MaxRows, true), many(api.MaxRows-1, true), {Name: "t", Rows: []api.Row{}}}
	for _, name := range []string{"n", "\x00", " ", "\xff\xfe", strings.Repeat("n", api.MaxName), strings.Repeat("é", 12)} {
		list = append(list, api.Table{Name: name}, api.Table{Name: name, Two: true, Rows: []api.Row{row(0, 0, 0, 1)}})
	}
	same := row(5, 6, 7, 1)
	for _, r := range []api.Row{same, row(5, 6, 8, -1), row(5, 6, 7, -1), row(5, 7, 0, 1), row(6, -9, 0, 1), row(math.MaxInt32, math.MinInt32, 0, 1)} {
		list = append(list, two(same, r), two(same, same, r, r, row(math.MaxInt32, math.MaxInt32, 0, 1)))
	}
	return append(list, one(row(5, 0, 7, 1), row(5, 0, 7, 1), row(5, 0, 8, 1), row(6, 0, 0, 1)), one(row(math.MinInt32, 0, 9, 1), row(math.MaxInt32, 0, 8, 1)))
}

// P7.1: Valid reports whether a table is valid.
func TestValid(t *testing.T) {
	for _, x := range valid() {
		if !table.Valid(x) {
			t.Errorf("Valid(%v) = false", x)
		}
	}
	for _, x := range invalid() {
		if table.Valid(x) {
			t.Errorf("Valid(%v) = true", x)
		}
	}
}

// P7.1 to P7.3: ErrArg for a table that is not valid, and nothing else.
func TestInvalidTables(t *testing.T) {
	for _, x := range invalid() {
		v, e := table.View(x, 5)
		expect(t, api.Table{}, api.ErrArg, v, e, "View", short(x))
		f, e := table.Look(x, 1, 5)
		expectFrac(t, api.Frac{}, api.ErrArg, f, e, "Look", short(x))
		f, e = table.LookTwo(x, 1, 1, 5)
		expectFrac(t, api.Frac{}, api.ErrArg, f, e, "LookTwo", short(x))
		l, e := table.Learn(x, row(1, 0, 1, 1))
		expect(t, api.Table{}, api.ErrArg, l, e, "Learn", short(x))
	}
}

// P7.1: every pair of rows with small keys, in both orders.
func TestOrder(t *testing.T) {
	var rows []api.Row
	for i := range 27 {
		rows = append(rows, row(i/9-1, i/3%3-1, i%3, i))
	}
	for _, r := range rows {
		for _, s := range rows {
			if got, want := table.Valid(two(r, s)), !before(s, r); got != want {
				t.Errorf("Valid of %v, %v = %v, want %v", r, s, got, want)
			}
			ones := r.B == 0 && s.B == 0
			if got, want := table.Valid(one(r, s)), ones && !before(s, r); got != want {
				t.Errorf("Valid of one key %v, %v = %v, want %v", r, s, got, want)
			}
		}
	}
}

// Limits: fractions with as many limbs as there may be.
func TestLongFractions(t *testing.T) {
	x := api.Table{Name: "long"}
	power := make([]uint16, api.MaxLimbs)
	for i := range 20 {
		odd := longLimbs(api.MaxLimbs)
		odd[1] = uint16(i)
		power[api.MaxLimbs-1] = 1 << 15
		x.Rows = append(x.Rows, api.Row{A: i, F: api.Frac{N: api.Whole{Limbs: odd}, D: api.Whole{Limbs: append([]uint16{}, power...)}}})
	}
	for i, r := range x.Rows {
		f, e := table.Look(x, i, 0)
		expectFrac(t, r.F, api.OK, f, e, "Look", i)
	}
	x.Rows[19].F.N.Limbs[0] = 2 // no longer in lowest terms
	if table.Valid(x) || frac.Valid(x.Rows[19].F) {
		t.Error("a fraction that is not in lowest terms")
	}
}
