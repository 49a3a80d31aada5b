package table_test

import (
	"math/rand"
	"testing"

	"annuitant/api"
	"annuitant/table"
)

// P7.4: the keys of the rows of a view are strictly increasing, and a view of a view at the same day is the same.
func TestViewsOfViews(t *testing.T) {
	r := rand.New(rand.NewSource(4))
	for _, s := range shapes() {
		for range 10 {
			x := s.random(r)
			_, days := questions(x)
			for _, k := range days {
				v, e := table.View(x, k)
				if e != api.OK || !table.Valid(v) {
					t.Errorf("View(%s, %d) = %s, error %d", short(x), k, short(v), e)
				}
				for i := 1; i < len(v.Rows); i++ {
					if p, q := v.Rows[i-1], v.Rows[i]; p.A > q.A || p.A == q.A && p.B >= q.B {
						t.Errorf("View(%s, %d) = %s", short(x), k, short(v))
					}
				}
				again, e := table.View(v, k)
				expect(t, v, api.OK, again, e, "View of View", short(x), k)
			}
		}
	}
}

// P7.4: looking at a view gives what looking at the table gives.
func TestLookAtView(t *testing.T) {
	r := rand.New(rand.NewSource(5))
	for _, s := range shapes() {
		for range 10 {
			x := s.random(r)
			keys, days := questions(x)
			for range 100 {
				a, b, k := keys[r.Intn(len(keys))], keys[r.Intn(len(keys))], days[r.Intn(len(days))]
				v, _ := table.View(x, k)
				want, wantE := ask(x, a, b, k)
				got, e := ask(v, a, b, k)
				expectFrac(t, want, wantE, got, e, "Look at View", short(x), a, b, k)
			}
		}
	}
}

// P7.4: a row that is learned changes nothing that is looked at with a day before its Known; from then on it is in force, unless a row with its keys is known later.
func TestLearnedRow(t *testing.T) {
	r := rand.New(rand.NewSource(6))
	for _, s := range shapes() {
		for range 20 {
			x, n := s.random(r), s.row(r, -1)
			y, e := table.Learn(x, n)
			if e != api.OK {
				t.Fatal(e)
			}
			for k := s.firstKnown - 1; k < n.Known; k++ {
				v, _ := table.View(x, k)
				w, e := table.View(y, k)
				expect(t, v, api.OK, w, e, "View", short(x), n, k)
				for a := s.firstKey - 1; a <= s.firstKey+s.keys; a++ {
					want, wantE := ask(x, a, a, k)
					got, e := ask(y, a, a, k)
					expectFrac(t, want, wantE, got, e, "Look", short(x), n, a, k)
				}
			}
			got, e := ask(y, n.A, n.B, n.Known)
			expectFrac(t, n.F, api.OK, got, e, "Look at", n, short(x))
		}
	}
}

// P7.4: rows with different keys or Known can be learned in any order.
func TestLearnInAnyOrder(t *testing.T) {
	r := rand.New(rand.NewSource(7))
	type place struct{ a, b, known int }
	for _, s := range shapes() {
		for range 10 {
			taken := map[place]bool{}
			var rows []api.Row
			for i, x := range s.random(r).Rows {
				if p := (place{x.A, x.B, x.Known}); !taken[p] {
					taken[p] = true
					x.F = fraction([]string{"0", "-1/3", "5"}[i%3])
					rows = append(rows, x)
				}
			}
			want := api.Table{Name: "mixed", Two: s.two, Rows: rows}
			mixed := api.Table{Name: "mixed", Two: s.two}
			for _, i := range r.Perm(len(rows)) {
				var e api.Errno
				if mixed, e = table.Learn(mixed, rows[i]); e != api.OK {
					t.Fatal(e)
				}
			}
			expect(t, want, api.OK, mixed, api.OK, "mixed")
		}
	}
}
