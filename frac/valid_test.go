package frac_test

import (
	"math"
	"math/rand"
	"testing"

	"annuitant/api"
	"annuitant/frac"
	"annuitant/whole"
)

// P2.1: Valid.
func TestValid(t *testing.T) {
	w := whole.FromInt
	valid := []api.Frac{
		{D: w(1)}, {N: api.Whole{Limbs: []uint16{}}, D: w(1)}, {N: w(1), D: w(1)}, {N: w(-1), D: w(1)},
		{N: w(1), D: w(2)}, {N: w(-1), D: w(2)}, {N: w(2), D: w(1)}, {N: w(6), D: w(35)}, {N: w(65537), D: w(65536)},
	}
	for _, a := range edges() {
		valid = append(valid, fromRat(a))
	}
	for _, a := range valid {
		if !frac.Valid(a) {
			t.Errorf("%s is called invalid", show(a))
		}
	}
	for i, a := range invalid() {
		if frac.Valid(a) {
			t.Errorf("invalid fraction %d is called valid", i)
		}
	}
}

// P2.1: Same, for valid and invalid fractions.
func TestSame(t *testing.T) {
	all := append(invalid(), of("0"), of("1"), of("-1"), of("1/2"), of("-1/2"), of("2"), of("2/3"), of("3/2"), fromRat(integer(most())))
	for i, a := range all {
		for j, b := range all {
			if got := frac.Same(a, copied(b)); got != (i == j) {
				t.Errorf("Same of the fractions %d and %d: %v", i, j, got)
			}
		}
	}
	empty := api.Whole{Limbs: []uint16{}}
	if !frac.Same(api.Frac{}, api.Frac{N: empty, D: empty}) {
		t.Error("nil and empty limbs are not the same")
	}
}

// P2.1: FromInt.
func TestFromInt(t *testing.T) {
	for _, n := range []int{0, 1, -1, 2, 65535, 65536, -65537, math.MaxInt64, math.MinInt64} {
		a := frac.FromInt(n)
		if !frac.Same(a, api.Frac{N: whole.FromInt(n), D: whole.FromInt(1)}) || !frac.Valid(a) {
			t.Errorf("FromInt(%d) = %s", n, show(a))
		}
		if m, e := frac.Int(a); m != n || e != api.OK {
			t.Errorf("Int of FromInt(%d) = %d, error %d", n, m, e)
		}
	}
}

// P2.3, P2.6: invalid arguments, in each place; ErrArg comes before all other errors.
func TestInvalidArguments(t *testing.T) {
	for i, a := range invalid() {
		for name, operation := range operations() {
			for _, b := range []api.Frac{of("0"), of("1"), of("-2/3"), fromRat(integer(most())), a} {
				x, e := operation(a, b)
				expectError(t, api.ErrArg, x, e, name, "with the invalid fraction", i, "first")
				x, e = operation(b, a)
				expectError(t, api.ErrArg, x, e, name, "with the invalid fraction", i, "second")
				if frac.Cmp(a, b) != 0 || frac.Cmp(b, a) != 0 {
					t.Errorf("Cmp of the invalid fraction %d is not 0", i)
				}
			}
		}
		x, e := frac.Neg(a)
		expectError(t, api.ErrArg, x, e, "Neg of the invalid fraction", i)
		for _, n := range []int{0, 1, -1, 2, -3, math.MaxInt64, math.MinInt64} {
			x, e = frac.Pow(a, n)
			expectError(t, api.ErrArg, x, e, "Pow of the invalid fraction", i)
		}
		if w, e := frac.Floor(a); e != api.ErrArg || !isZero(w) {
			t.Errorf("Floor of the invalid fraction %d: %v, error %d", i, w, e)
		}
		if w, e := frac.Ceil(a); e != api.ErrArg || !isZero(w) {
			t.Errorf("Ceil of the invalid fraction %d: %v, error %d", i, w, e)
		}
		if n, e := frac.Int(a); e != api.ErrArg || n != 0 {
			t.Errorf("Int of the invalid fraction %d: %d, error %d", i, n, e)
		}
		if s, e := frac.Text(a); e != api.ErrArg || s != "" {
			t.Errorf("Text of the invalid fraction %d: %q, error %d", i, s, e)
		}
	}
}

// R3: no function modifies an argument or its spare capacity, and no result shares memory with anything else.
func TestMemory(t *testing.T) {
	r := rand.New(rand.NewSource(7))
	for i := range 150 {
		a, b := withSpare(fromRat(random(r, 1+i%8))), withSpare(fromRat(random(r, 1+i%8)))
		if isZero(b.N) {
			continue
		}
		beforeA, beforeB := withSpare(a), withSpare(b)
		parts := partsOf(a, b)
		for k := range parts {
			before := make([]api.Whole, len(parts))
			for j, x := range parts {
				before[j] = spared(x)
			}
			invert(parts[k])
			for j, x := range parts {
				if j != k && !whole.Same(x, before[j]) {
					t.Fatalf("results %d and %d share memory", j, k)
				}
			}
		}
		if !sameWithSpare(a, beforeA) || !sameWithSpare(b, beforeB) {
			t.Fatal("an argument was modified, or shares memory with a result")
		}
	}
}

// partsOf returns all whole numbers that the results of all functions contain; b is not 0.
func partsOf(a, b api.Frac) []api.Whole {
	var parts []api.Whole
	add := func(x api.Frac, e api.Errno) { parts = append(parts, x.N, x.D) }
	for _, operation := range operations() {
		add(operation(a, b))
		add(operation(b, b))
		add(operation(frac.FromInt(0), b))
		add(operation(b, frac.FromInt(1)))
	}
	for n := -2; n <= 2; n++ {
		add(frac.Pow(b, n))
	}
	for mode := api.RoundDown; mode <= api.RoundEven; mode++ {
		add(frac.Round(b, frac.FromInt(1), mode))
		add(frac.Round(b, b, mode))
	}
	add(frac.Neg(a))
	add(frac.Neg(b))
	add(frac.Make(b.N, b.D))
	add(frac.Make(b.N, b.N))
	add(frac.Make(b.N, whole.FromInt(1)))
	add(frac.FromInt(-70000), api.OK)
	add(frac.FromInt(-70000), api.OK)
	text, _ := frac.Text(b)
	add(frac.Parse(text))
	add(frac.Parse(text))
	for _, x := range []api.Frac{a, b, frac.FromInt(70000)} {
		floor, _ := frac.Floor(x)
		ceil, _ := frac.Ceil(x)
		parts = append(parts, floor, ceil)
		frac.Int(x)
		frac.Valid(x)
	}
	frac.Cmp(a, b)
	frac.Same(a, b)
	return parts
}

// invert changes all limbs of a number.
func invert(a api.Whole) {
	for i := range a.Limbs {
		a.Limbs[i] = ^a.Limbs[i]
	}
}

// copied returns a copy of a fraction.
func copied(a api.Frac) api.Frac {
	return api.Frac{
		N: api.Whole{Neg: a.N.Neg, Limbs: append([]uint16(nil), a.N.Limbs...)},
		D: api.Whole{Neg: a.D.Neg, Limbs: append([]uint16(nil), a.D.Limbs...)},
	}
}

// spared returns a copy of a number whose limbs have spare capacity with something in it.
func spared(a api.Whole) api.Whole {
	n := len(a.Limbs)
	limbs := append(append([]uint16(nil), a.Limbs...), 11, 22, 33)
	return api.Whole{Neg: a.Neg, Limbs: limbs[:n]}
}

func withSpare(a api.Frac) api.Frac { return api.Frac{N: spared(a.N), D: spared(a.D)} }

// sameWithSpare reports whether fractions and what lies behind their limbs are the same.
func sameWithSpare(a, b api.Frac) bool {
	whole3 := func(a api.Whole) api.Whole { return api.Whole{Neg: a.Neg, Limbs: a.Limbs[:len(a.Limbs)+3]} }
	return whole.Same(whole3(a.N), whole3(b.N)) && whole.Same(whole3(a.D), whole3(b.D))
}

// R5: nil and empty limbs mean the same.
func TestNilAndEmpty(t *testing.T) {
	one := whole.FromInt(1)
	zero, empty := api.Frac{D: one}, api.Frac{N: api.Whole{Limbs: []uint16{}}, D: one}
	for _, b := range []api.Frac{zero, empty, of("7"), of("-1/2")} {
		for name, operation := range operations() {
			x, e := operation(zero, b)
			y, f := operation(empty, b)
			if !frac.Same(x, y) || e != f {
				t.Errorf("%s of 0: %s or %s, error %d or %d", name, show(x), show(y), e, f)
			}
			x, e = operation(b, zero)
			y, f = operation(b, empty)
			if !frac.Same(x, y) || e != f {
				t.Errorf("%s with 0: %s or %s, error %d or %d", name, show(x), show(y), e, f)
			}
		}
		if frac.Cmp(b, zero) != frac.Cmp(b, empty) {
			t.Errorf("Cmp of %s and 0", show(b))
		}
	}
	none := api.Whole{Limbs: []uint16{}}
	if x, e := frac.Make(one, none); e != frac.ErrZero || !isNothing(x) {
		t.Errorf("Make(1, 0) = %s, error %d", show(x), e)
	}
	if x, e := frac.Make(none, one); e != api.OK || !frac.Same(x, zero) {
		t.Errorf("Make(0, 1) = %s, error %d", show(x), e)
	}
	if s, e := frac.Text(empty); s != "0" || e != api.OK {
		t.Errorf("Text of 0: %q, error %d", s, e)
	}
}
