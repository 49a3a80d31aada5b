package timeline_test

import (
	"slices"
	"testing"

	"annuitant/api"
	"annuitant/timeline"
)

// limitsOf returns values of a kind at the limits.
func limitsOf(kind uint8) []api.Value {
	least := api.Whole{Neg: true}
	for range api.MaxLimbs {
		least.Limbs = append(least.Limbs, 0xffff)
	}
	unit := api.Whole{Limbs: []uint16{1}}
	power := api.Whole{Limbs: append(make([]uint16, api.MaxLimbs-1), 1)}
	switch kind {
	case api.Truth:
		return []api.Value{{Kind: kind}, {Kind: kind, I: 1}}
	case api.Date:
		return []api.Value{{Kind: kind}, {Kind: kind, I: 1}, {Kind: kind, I: 36583}, {Kind: kind, I: api.MaxDay - 1}}
	case api.Days, api.Months:
		return []api.Value{{Kind: kind}, {Kind: kind, I: 1}, {Kind: kind, I: -1}, {Kind: kind, I: 1 << 20}, {Kind: kind, I: -1 << 20}, {Kind: kind, I: api.MaxDay}}
	}
	return []api.Value{{Kind: kind, F: api.Frac{N: least, D: unit}}, {Kind: kind, F: api.Frac{N: least, D: power}}, {Kind: kind, F: api.Frac{N: unit, D: power}}, {Kind: kind, F: of("0")}}
}

// P5.1: Valid.
func TestValid(t *testing.T) {
	for _, kind := range kinds() {
		for _, v := range append(some(kind), limitsOf(kind)...) {
			if !timeline.Valid(v) {
				t.Errorf("%v is called invalid", v)
			}
		}
	}
	for _, v := range invalidValues() {
		if timeline.Valid(v) {
			t.Errorf("%v is called valid", v)
		}
	}
}

// P5.1: which numbers a kind has, around all limits.
func TestValidRange(t *testing.T) {
	ranges := map[uint8][2]int{api.Truth: {0, 1}, api.Date: {0, 65535}, api.Days: {-1048576, 1048576}, api.Months: {-1048576, 1048576}, api.Number: {0, 0}, api.Money: {0, 0}}
	for kind := range 256 {
		limits, known := ranges[uint8(kind)]
		for _, near := range []int{0, 65535, -65535, 1048576, -1048576} {
			for i := near - 3; i <= near+3; i++ {
				v := api.Value{Kind: uint8(kind), I: i}
				if v.Kind == api.Number || v.Kind == api.Money {
					v.F = of("5/7")
				}
				if got := timeline.Valid(v); got != (known && limits[0] <= i && i <= limits[1]) {
					t.Errorf("Valid(%v) = %v", v, got)
				}
			}
		}
	}
}

// copied returns a copy of a value.
func copied(v api.Value) api.Value {
	v.F.N.Limbs, v.F.D.Limbs = slices.Clone(v.F.N.Limbs), slices.Clone(v.F.D.Limbs)
	return v
}

// P5.1: Same, for valid and invalid values.
func TestSame(t *testing.T) {
	all := invalidValues()
	for _, kind := range kinds() {
		all = append(all, some(kind)...)
	}
	for i, a := range all {
		for j, b := range all {
			if got := timeline.Same(a, copied(b)); got != (i == j) {
				t.Errorf("Same(%v, %v) = %v", a, b, got)
			}
		}
	}
}

// P5.1, R5: nil and empty limbs mean the same.
func TestNilAndEmptyLimbs(t *testing.T) {
	none := api.Whole{Limbs: []uint16{}}
	for _, v := range []api.Value{{Kind: api.Truth, I: 1}, {Kind: api.Date}, {Kind: api.Days, I: -5}, {Kind: api.Months, I: 7}, {}} {
		w := v
		w.F = api.Frac{N: none, D: none}
		if !timeline.Same(v, w) || !timeline.Same(w, v) || timeline.Valid(w) != timeline.Valid(v) {
			t.Errorf("%v and %v are not the same", v, w)
		}
	}
	zero, w := number("0"), number("0")
	zero.F.N.Limbs, w.F.N.Limbs = nil, []uint16{}
	if !timeline.Same(zero, w) || !timeline.Valid(zero) || !timeline.Valid(w) {
		t.Error("the number 0 with nil and with empty limbs")
	}
	if timeline.Right([]api.Step{step(0, 5, zero), step(5, 9, w)}) {
		t.Error("neighbours with the number 0 are called a timeline")
	}
	got, e := timeline.Join([]api.Step{step(0, 5, zero)}, []api.Step{step(5, 9, w)})
	expect(t, []api.Step{step(0, 9, zero)}, got, e, "Join")
}

// P5.1: Right of timelines of all sorts.
func TestRight(t *testing.T) {
	good := [][]api.Step{nil, {}, example()}
	for _, kind := range kinds() {
		list := append(some(kind), limitsOf(kind)...)
		for i, v := range list {
			good = append(good, []api.Step{step(0, 1, v)}, []api.Step{step(0, api.MaxDay, v)}, []api.Step{step(api.MaxDay-1, api.MaxDay, v)}, []api.Step{step(0, 5, v), step(6, 9, v)})
			for _, w := range list[:i] {
				if !equal(v, w) {
					good = append(good, []api.Step{step(0, 5, v), step(5, 9, w), step(9, 12, v), step(13, 14, v)})
				}
			}
		}
		good = append(good, longest(kind))
	}
	for _, l := range good {
		if !timeline.Right(l) {
			t.Errorf("%v (%d steps) is called no timeline", short(l), len(l))
		}
	}
	for i, l := range notTimelines() {
		if timeline.Right(l) {
			t.Errorf("slice %d, %v, is called a timeline", i, short(l))
		}
	}
}

// P5.1: of all pairs of short steps, and some of three, those are timelines that are what their days make.
func TestRightIsUnique(t *testing.T) {
	list := some(api.Money)[:2]
	for _, first := range []int{0, 1000, api.MaxDay - 3} {
		var all []api.Step
		for from := -1; from <= 4; from++ {
			for to := -1; to <= 4; to++ {
				all = append(all, step(first+from, first+to, list[0]), step(first+from, first+to, list[1]))
			}
		}
		for i, a := range all {
			checkRight(t, a)
			for j, b := range all {
				checkRight(t, a, b)
				checkRight(t, a, b, all[(7*i+3*j)%len(all)])
			}
		}
	}
}

// checkRight compares Right with the timeline that the days of steps make.
func checkRight(t *testing.T, l ...api.Step) {
	t.Helper()
	want := true
	days := map[int]int{} // on which day which step has a value
	for i, s := range l {
		want = want && s.From >= 0 && s.From < s.To && s.To <= api.MaxDay
		for day := s.From; day < s.To; day++ {
			_, twice := days[day]
			want = want && !twice
			days[day] = i
		}
		last, before := days[s.From-1]
		want = want && (i == 0 || s.From > l[i-1].From) && (!before || last == i || !equal(l[last].V, s.V))
	}
	if got := timeline.Right(l); got != want {
		t.Errorf("Right(%v) = %v", l, got)
	}
}
