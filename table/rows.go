package table

import (
	"cmp"
	"math"
	"slices"
	"sort"

	"annuitant/api"
)

// rows.go: the order of rows, and the rows in force, which are found in it.

// keys are the keys of a row.
type keys struct{ a, b int }

// keysOf returns the keys of a row.
func keysOf(r api.Row) keys {
	return keys{r.A, r.B}
}

// order compares two rows in the order of rows.
func order(r, s api.Row) int {
	return cmp.Or(cmp.Compare(r.A, s.A), cmp.Compare(r.B, s.B), cmp.Compare(r.Known, s.Known))
}

// copied returns a copy of a row that shares no memory with it.
func copied(r api.Row) api.Row {
	r.F.N.Limbs = slices.Clone(r.F.N.Limbs)
	r.F.D.Limbs = slices.Clone(r.F.D.Limbs)
	return r
}

// end returns the number of rows that do not come after a row in the order.
func end(rows []api.Row, r api.Row) int {
	return sort.Search(len(rows), func(i int) bool { return order(rows[i], r) > 0 })
}

// inForce reports whether the row i is in force on a day. Of the later rows with
// its keys, the next one is known first.
func inForce(rows []api.Row, i, known int) bool {
	if rows[i].Known > known {
		return false
	}
	next := i + 1
	return next == len(rows) || keysOf(rows[next]) != keysOf(rows[i]) || rows[next].Known > known
}

// last returns the row in force with the greatest keys, up to a and b, and
// whether there is one. The last row that is known is in force.
func last(rows []api.Row, a, b, known int) (api.Row, bool) {
	for i := end(rows, api.Row{A: a, B: b, Known: known}) - 1; i >= 0; i-- {
		if rows[i].Known <= known {
			return rows[i], true
		}
	}
	return api.Row{}, false
}

// look returns the fraction of two keys; the second one is 0 for rows with one.
func look(rows []api.Row, a, b, known int) (api.Frac, api.Errno) {
	first, ok := last(rows, a, math.MaxInt, known)
	if !ok {
		return api.Frac{}, api.ErrNone
	}
	r, ok := last(rows, first.A, b, known)
	if !ok || r.A != first.A {
		return api.Frac{}, api.ErrNone
	}
	return copied(r).F, api.OK
}
