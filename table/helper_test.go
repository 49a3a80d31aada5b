package table_test

import (
	"math"
	"math/rand"
	"slices"
	"testing"

	"annuitant/api"
	"annuitant/frac"
)

// fraction returns the fraction with a text.
func fraction(text string) api.Frac {
	f, e := frac.Parse(text)
	if e != api.OK {
		panic(text)
	}
	return f
}

// row returns a row with a number.
func row(a, b, known, n int) api.Row {
	return api.Row{A: a, B: b, Known: known, F: frac.FromInt(n)}
}

// one returns a table with one key.
func one(rows ...api.Row) api.Table { return api.Table{Name: "t", Rows: rows} }

// two returns a table with two keys.
func two(rows ...api.Row) api.Table { return api.Table{Name: "t", Two: true, Rows: rows} }

// age returns the first table of the chapter's examples.
func age() api.Table {
	return api.Table{Name: "age", Rows: []api.Row{
		{F: fraction("1/10")}, {A: 30, F: fraction("1/5")}, {A: 30, Known: 100, F: fraction("1/4")}, {A: 60, F: fraction("1/2")},
	}}
}

// pairs returns the second table of the chapter's examples.
func pairs() api.Table {
	return api.Table{Name: "two", Two: true, Rows: []api.Row{row(1, 0, 0, 1), row(1, 5, 0, 2), row(3, 2, 0, 3)}}
}

// before is the oracle of the order of rows: it reports whether a row comes before another one.
func before(r, s api.Row) bool {
	if r.A != s.A {
		return r.A < s.A
	}
	if r.B != s.B {
		return r.B < s.B
	}
	return r.Known < s.Known
}

// sorted sorts rows in their order, those of equal place as they are.
func sorted(rows []api.Row) []api.Row {
	for i := range rows {
		for k := i; k > 0 && before(rows[k], rows[k-1]); k-- {
			rows[k], rows[k-1] = rows[k-1], rows[k]
		}
	}
	return rows
}

// force is the oracle of views: the rows in force, as the chapter defines them.
func force(rows []api.Row, known int) []api.Row {
	var out []api.Row
	for i, r := range rows {
		later := func(s api.Row) bool { return s.A == r.A && s.B == r.B && s.Known <= known }
		if r.Known <= known && !slices.ContainsFunc(rows[i+1:], later) {
			out = append(out, r)
		}
	}
	return out
}

// found is the oracle of Look and LookTwo: the fraction of the keys, and whether there is one.
func found(t api.Table, a, b, known int) (api.Frac, bool) {
	rows := force(t.Rows, known)
	x, ok := 0, false
	for _, r := range rows {
		if r.A <= a && (!ok || r.A > x) {
			x, ok = r.A, true
		}
	}
	var best *api.Row
	for i, r := range rows {
		if ok && r.A == x && (!t.Two || r.B <= b) && (best == nil || r.B > best.B) {
			best = &rows[i]
		}
	}
	if best == nil {
		return api.Frac{}, false
	}
	return best.F, true
}

// shape says what random tables look like.
type shape struct {
	rows, keys, knowns   int // there are as many rows, so many values of a key, and of Known
	firstKey, firstKnown int // the least of each
	two                  bool
}

// row returns a row, with the fraction n / 7 or a whole number.
func (s shape) row(r *rand.Rand, n int) api.Row {
	f, _ := frac.Div(frac.FromInt(n), frac.FromInt(7))
	x := api.Row{A: s.firstKey + r.Intn(s.keys), Known: s.firstKnown + r.Intn(s.knowns), F: f}
	if s.two {
		x.B = s.firstKey + r.Intn(s.keys)
	}
	return x
}

// random returns a table; no two rows have the same fraction.
func (s shape) random(r *rand.Rand) api.Table {
	t := api.Table{Name: "random", Two: s.two}
	for i := range s.rows {
		t.Rows = append(t.Rows, s.row(r, i))
	}
	sorted(t.Rows)
	return t
}

// shapes returns shapes of tables.
func shapes() []shape {
	var list []shape
	for _, n := range []int{0, 1, 2, 3, 4, 5, 7, 8, 12, 40} {
		for _, two := range []bool{false, true} {
			list = append(list, shape{rows: n, keys: 3, knowns: 3, two: two}, shape{rows: n, keys: 2, knowns: 5, firstKey: -1, firstKnown: 9, two: two},
				shape{rows: n, keys: 5, knowns: 2, firstKey: math.MinInt32, two: two}, shape{rows: n, keys: 4, knowns: 9, firstKey: math.MaxInt32 - 3, firstKnown: api.MaxDay - 9, two: two},
				shape{rows: n, keys: 1, knowns: 4, firstKey: 7, two: two}, shape{rows: n, keys: 20, knowns: 1, firstKey: -10, firstKnown: 5, two: two})
		}
	}
	return list
}

// far are whole numbers that are no keys or days of knowledge.
func far() []int {
	return []int{math.MinInt64, math.MinInt64 + 1, math.MaxInt64 - 1, math.MaxInt64, 1 << 32, -1 << 32, 1<<32 + 1, math.MinInt32 - 1, math.MaxInt32 + 1}
}

// questions returns keys, and days of knowledge, to ask a table for.
func questions(t api.Table) (keys, days []int) {
	keys, days = append(far(), 0), append(far(), -1, 0, api.MaxDay-1, api.MaxDay)
	for _, r := range t.Rows {
		keys = append(keys, r.A-1, r.A, r.A+1, r.B-1, r.B, r.B+1)
		days = append(days, r.Known-1, r.Known, r.Known+1)
	}
	slices.Sort(keys)
	slices.Sort(days)
	return slices.Compact(keys), slices.Compact(days)
}

// equalRows reports whether two rows are equal.
func equalRows(r, s api.Row) bool {
	return r.A == s.A && r.B == s.B && r.Known == s.Known && frac.Same(r.F, s.F)
}

// equal reports whether two tables are equal.
func equal(t, u api.Table) bool {
	return t.Name == u.Name && t.Two == u.Two && slices.EqualFunc(t.Rows, u.Rows, equalRows)
}

// short shows a table in a line.
func short(t api.Table) string {
	line := t.Name
	for _, r := range t.Rows[:min(len(t.Rows), 12)] {
		text, _ := frac.Text(r.F)
		for _, n := range []int{r.A, r.B, r.Known} {
			f, _ := frac.Text(frac.FromInt(n))
			line += " " + f
		}
		line += ": " + text + ";"
	}
	return line
}

// expect checks that a result is a table, or an error with the zero value.
func expect(t *testing.T, want api.Table, wantE api.Errno, got api.Table, e api.Errno, what ...any) {
	t.Helper()
	if e != wantE || !equal(got, want) {
		t.Errorf("%v = %s (%d rows), error %d; want %s (%d rows), error %d", what, short(got), len(got.Rows), e, short(want), len(want.Rows), wantE)
	}
}

// expectFrac checks that a result is a fraction, or an error with the zero value.
func expectFrac(t *testing.T, want api.Frac, wantE api.Errno, got api.Frac, e api.Errno, what ...any) {
	t.Helper()
	if e != wantE || !frac.Same(got, want) {
		t.Errorf("%v = %v, error %d; want %v, error %d", what, got, e, want, wantE)
	}
}
