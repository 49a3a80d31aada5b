package table_test

import (
	"math"
	"math/rand"
	"slices"
	"testing"

	"annuitant/api"
	"annuitant/table"
)

// P7.3: a row is inserted behind the last one that does not come after it.
func TestLearn(t *testing.T) {
	x := two(row(1, 5, 3, 1), row(1, 5, 3, 2), row(1, 5, 4, 3), row(1, 6, 0, 4), row(2, 0, 0, 5))
	for _, c := range []struct {
		r  api.Row
		at int
	}{{row(1, 5, 2, 9), 0}, {row(1, 5, 3, 9), 2}, {row(1, 5, 4, 9), 3}, {row(1, 5, 5, 9), 3}, {row(1, 6, 0, 9), 4}, {row(1, 7, 0, 9), 4}, {row(2, -1, 7, 9), 4}, {row(2, 0, 0, 9), 5}, {row(2, 0, 1, 9), 5}, {row(3, -9, 0, 9), 5},
		{row(0, 9, 9, 9), 0}, {row(1, 4, 9, 9), 0}, {row(math.MinInt32, math.MaxInt32, api.MaxDay-1, 9), 0}, {row(math.MaxInt32, math.MinInt32, 0, 9), 5}} {
		got, e := table.Learn(x, c.r)
		expect(t, two(slices.Insert(slices.Clone(x.Rows), c.at, c.r)...), api.OK, got, e, "Learn", c.r)
	}
	for _, x := range []api.Table{one(), two()} {
		got, e := table.Learn(x, row(7, 0, 8, 9))
		want := x
		want.Rows = []api.Row{row(7, 0, 8, 9)}
		expect(t, want, api.OK, got, e, "Learn into no rows")
	}
}

// P7.3: learning a random row keeps the table sorted, the other rows as they are, and puts it behind its equals.
func TestRandomLearns(t *testing.T) {
	r := rand.New(rand.NewSource(3))
	for _, s := range shapes() {
		for range 40 {
			x := s.random(r)
			x.Name = "a name of 24 bytes, full"
			n := s.row(r, -1)
			want := api.Table{Name: x.Name, Two: x.Two, Rows: sorted(append(slices.Clone(x.Rows), n))}
			got, e := table.Learn(x, n)
			expect(t, want, api.OK, got, e, "Learn", short(x), n)
		}
	}
}

// P7.3: ErrArg for a row that is not valid for the table, also for a full table; ErrFull for a full table.
func TestLearnErrors(t *testing.T) {
	full, fullTwo := many(api.MaxRows, false), many(api.MaxRows, true)
	for _, r := range append(wrongRows(), row(0, 1, 0, 1), row(0, -1, 0, 1)) {
		for _, x := range []api.Table{one(), age(), full} {
			got, e := table.Learn(x, r)
			expect(t, api.Table{}, api.ErrArg, got, e, "Learn", r)
		}
	}
	for _, r := range wrongRows() {
		for _, x := range []api.Table{two(), pairs(), fullTwo} {
			got, e := table.Learn(x, r)
			expect(t, api.Table{}, api.ErrArg, got, e, "Learn", r)
		}
	}
	for _, r := range []api.Row{row(0, 0, 0, 1), full.Rows[17], row(math.MaxInt32, 0, 0, 1), row(math.MinInt32, 0, 0, 1)} {
		for _, x := range []api.Table{full, fullTwo} {
			got, e := table.Learn(x, r)
			expect(t, api.Table{}, api.ErrFull, got, e, "Learn", r)
		}
	}
}

// Limits: the last row for which there is space, first, in the middle, and last.
func TestLearnLastSpace(t *testing.T) {
	for _, two := range []bool{false, true} {
		x := many(api.MaxRows-1, two)
		for _, r := range []api.Row{row(-1, 0, 0, 7), row(50, 0, 2, 7), row(1000, 0, 0, 7)} {
			want := api.Table{Name: x.Name, Two: two, Rows: sorted(append(slices.Clone(x.Rows), r))}
			got, e := table.Learn(x, r)
			expect(t, want, api.OK, got, e, "Learn", r)
			if !table.Valid(got) || len(got.Rows) != api.MaxRows {
				t.Errorf("%d rows, Valid = %v", len(got.Rows), table.Valid(got))
			}
			_, days := questions(got)
			for a := -2; a < 102; a += 3 {
				for _, k := range days {
					f, ok := found(got, a, 0, k)
					wantE := api.ErrNone
					if ok {
						wantE = api.OK
					}
					g, e := ask(got, a, 0, k)
					expectFrac(t, f, wantE, g, e, "Look", a, k)
				}
			}
		}
	}
}
