package table_test

import (
	"math"
	"math/rand"
	"testing"

	"annuitant/api"
	"annuitant/table"
)

// P7.2: the chapter's examples, and other questions about its tables.
func TestLookExamples(t *testing.T) {
	for _, c := range []struct {
		a, known int
		want     string
	}{{35, 50, "1/5"}, {35, 100, "1/4"}, {60, 0, "1/2"}, {-1, 50, ""}, {0, 0, "1/10"}, {29, 100, "1/10"}, {30, 99, "1/5"}, {30, 100, "1/4"}, {59, 1000, "1/4"}, {59, 0, "1/5"},
		{60, -1, ""}, {math.MaxInt64, 0, "1/2"}, {math.MinInt64, 0, ""}, {math.MaxInt64, math.MinInt64, ""}, {1 << 32, 100, "1/2"}, {-1 << 32, math.MaxInt64, ""}, {30, math.MaxInt64, "1/4"}} {
		got, e := table.Look(age(), c.a, c.known)
		if c.want == "" {
			expectFrac(t, api.Frac{}, api.ErrNone, got, e, "Look", c.a, c.known)
		} else {
			expectFrac(t, fraction(c.want), api.OK, got, e, "Look", c.a, c.known)
		}
	}
	for _, c := range []struct {
		a, b int
		want string
	}{{2, 7, "2"}, {5, 2, "3"}, {3, 1, ""}, {1, 0, "1"}, {1, 4, "1"}, {1, 5, "2"}, {1, -1, ""}, {0, 7, ""}, {3, 2, "3"}, {4, math.MaxInt64, "3"}, {2, math.MinInt64, ""}, {math.MaxInt64, math.MaxInt64, "3"}, {math.MaxInt64, 1, ""}, {math.MinInt64, 9, ""}} {
		got, e := table.LookTwo(pairs(), c.a, c.b, 0)
		if c.want == "" {
			expectFrac(t, api.Frac{}, api.ErrNone, got, e, "LookTwo", c.a, c.b)
		} else {
			expectFrac(t, fraction(c.want), api.OK, got, e, "LookTwo", c.a, c.b)
		}
	}
}

// P7.2: ErrArg for a table with the other number of keys, also if no row would be found.
func TestLookWrongKeys(t *testing.T) {
	for _, k := range []int{-1, 0, 100} {
		f, e := table.LookTwo(age(), 30, 0, k)
		expectFrac(t, api.Frac{}, api.ErrArg, f, e, "LookTwo", k)
		f, e = table.Look(pairs(), 1, k)
		expectFrac(t, api.Frac{}, api.ErrArg, f, e, "Look", k)
		f, e = table.LookTwo(one(), 1, 0, k)
		expectFrac(t, api.Frac{}, api.ErrArg, f, e, "LookTwo of no rows", k)
		f, e = table.Look(two(), 1, k)
		expectFrac(t, api.Frac{}, api.ErrArg, f, e, "Look of no rows", k)
		f, e = table.Look(one(), 1, k)
		expectFrac(t, api.Frac{}, api.ErrNone, f, e, "Look of no rows", k)
		f, e = table.LookTwo(two(), 1, 0, k)
		expectFrac(t, api.Frac{}, api.ErrNone, f, e, "LookTwo of no rows", k)
	}
}

// P7.2: the greatest A counts even if it has no B that is at most b; rows that are not known yet do not count, neither for A nor for B.
func TestLookTwoGreatestA(t *testing.T) {
	x := two(row(1, 0, 0, 1), row(1, 3, 8, 2), row(2, 5, 4, 3), row(2, 7, 2, 4), row(3, -1, 9, 5))
	for _, c := range []struct {
		a, b, known int
		want        string
	}{{2, 4, 1, "1"}, {2, 6, 2, ""}, {2, 7, 2, "4"}, {2, 6, 4, "3"}, {2, 4, 4, ""}, {1, 4, 4, "1"}, {1, 4, 8, "2"}, {1, 2, 8, "1"}, {1, 3, 7, "1"},
		{3, 9, 8, "4"}, {3, 9, 9, "5"}, {3, -2, 9, ""}, {3, -2, 8, ""}, {9, 6, 8, "3"}, {2, 9, -1, ""}} {
		got, e := table.LookTwo(x, c.a, c.b, c.known)
		if c.want == "" {
			expectFrac(t, api.Frac{}, api.ErrNone, got, e, "LookTwo", c.a, c.b, c.known)
		} else {
			expectFrac(t, fraction(c.want), api.OK, got, e, "LookTwo", c.a, c.b, c.known)
		}
	}
}

// ask asks a table for keys and a day of knowledge, by the function for its number of keys.
func ask(x api.Table, a, b, known int) (api.Frac, api.Errno) {
	if x.Two {
		return table.LookTwo(x, a, b, known)
	}
	return table.Look(x, a, known)
}

// P7.2: random tables, by the definition.
func TestRandomLooks(t *testing.T) {
	r := rand.New(rand.NewSource(2))
	for _, s := range shapes() {
		for range 8 {
			x := s.random(r)
			keys, days := questions(x)
			for range 200 {
				a, b, k := keys[r.Intn(len(keys))], keys[r.Intn(len(keys))], days[r.Intn(len(days))]
				want, ok := found(x, a, b, k)
				wantE := api.ErrNone
				if ok {
					wantE = api.OK
				}
				got, e := ask(x, a, b, k)
				expectFrac(t, want, wantE, got, e, "Look", short(x), a, b, k)
			}
		}
	}
}

// P7.2: all questions about small tables with two keys: every choice of three rows out of sixteen.
func TestAllSmallTables(t *testing.T) {
	row16 := func(i, n int) api.Row { return row(i/8, i/4%2, i%4/2, n) }
	for i := range 16 * 16 * 16 {
		x := two(sorted([]api.Row{row16(i%16, 1), row16(i/16%16, 2), row16(i/256, 3)})...)
		for q := range 4 * 4 * 3 {
			a, b, k := q%4-1, q/4%4-1, q/16-1
			want, ok := found(x, a, b, k)
			wantE := api.ErrNone
			if ok {
				wantE = api.OK
			}
			got, e := table.LookTwo(x, a, b, k)
			expectFrac(t, want, wantE, got, e, "LookTwo", short(x), a, b, k)
		}
	}
}
