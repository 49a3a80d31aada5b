package table_test

import (
	"math/rand"
	"testing"

	"annuitant/api"
	"annuitant/table"
)

// P7.1: View has the rows in force, in their order, and the Name and Two of the table.
func TestView(t *testing.T) {
	x := age()
	for _, c := range []struct {
		known int
		rows  []int
	}{{-1, nil}, {0, []int{0, 1, 3}}, {50, []int{0, 1, 3}}, {99, []int{0, 1, 3}}, {100, []int{0, 2, 3}}, {1 << 40, []int{0, 2, 3}}, {-1 << 63, nil}, {1<<63 - 1, []int{0, 2, 3}}} {
		want := api.Table{Name: "age"}
		for _, i := range c.rows {
			want.Rows = append(want.Rows, x.Rows[i])
		}
		got, e := table.View(x, c.known)
		expect(t, want, api.OK, got, e, "View", c.known)
	}
	got, e := table.View(pairs(), 0)
	expect(t, pairs(), api.OK, got, e, "View")
}

// P7.1: of rows with the same keys and the same Known, the last one is in force.
func TestSameKnown(t *testing.T) {
	x := two(row(1, 1, 5, 1), row(1, 1, 5, 2), row(1, 1, 5, 2), row(1, 2, 3, 4), row(1, 2, 5, 5), row(1, 2, 5, 6), row(2, 1, 4, 7))
	for _, c := range []struct {
		known int
		rows  []api.Row
	}{{2, nil}, {3, x.Rows[3:4]}, {4, []api.Row{x.Rows[3], x.Rows[6]}}, {5, []api.Row{x.Rows[2], x.Rows[5], x.Rows[6]}}} {
		got, e := table.View(x, c.known)
		expect(t, two(c.rows...), api.OK, got, e, "View", c.known)
	}
	f, e := table.LookTwo(x, 1, 1, 5)
	expectFrac(t, fraction("2"), api.OK, f, e, "LookTwo 1 1")
	f, e = table.LookTwo(x, 1, 2, 5)
	expectFrac(t, fraction("6"), api.OK, f, e, "LookTwo 1 2")
}

// P7.1: views of random tables, by the definition of rows in force.
func TestRandomViews(t *testing.T) {
	r := rand.New(rand.NewSource(1))
	for _, s := range shapes() {
		for range 20 {
			x := s.random(r)
			_, days := questions(x)
			for _, k := range days {
				got, e := table.View(x, k)
				expect(t, api.Table{Name: x.Name, Two: x.Two, Rows: force(x.Rows, k)}, api.OK, got, e, "View", short(x), k)
			}
		}
	}
}
