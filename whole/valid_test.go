package whole_test

import (
	"math"
	"math/rand"
	"testing"

	"annuitant/api"
	"annuitant/whole"
)

// P1.1: Valid.
func TestValid(t *testing.T) {
	valid := []api.Whole{
		{}, {Limbs: []uint16{}}, of(1), minus(1), of(0, 1), minus(0, 0, 7), of(65535, 65535),
		greatest(whole.MaxWide), power(16*whole.MaxWide - 1), power(16*whole.MaxWide - 16),
	}
	for i, a := range valid {
		if !whole.Valid(a) {
			t.Errorf("valid number %d is called invalid", i)
		}
	}
	for i, a := range invalid() {
		if whole.Valid(a) {
			t.Errorf("invalid number %d is called valid", i)
		}
	}
}

// P1.1: Same, for valid and invalid numbers.
func TestSame(t *testing.T) {
	all := append(invalid(),
		api.Whole{}, of(1), minus(1), of(2), of(0, 1), of(0, 2), of(1, 1), minus(1, 1), of(0, 0), greatest(3), greatest(whole.MaxWide))
	for i, a := range all {
		for j, b := range all {
			copyOfB := api.Whole{Neg: b.Neg, Limbs: append([]uint16(nil), b.Limbs...)}
			nilAndEmpty := i+j == 1 // the first two differ only in that
			if got := whole.Same(a, copyOfB); got != (i == j || nilAndEmpty) {
				t.Errorf("Same of the numbers %d and %d: %v", i, j, got)
			}
		}
	}
	if !whole.Same(api.Whole{}, api.Whole{Limbs: []uint16{}}) {
		t.Error("nil and empty limbs are not the same")
	}
}

// P1.2: FromInt and Int.
func TestInts(t *testing.T) {
	for _, c := range []struct {
		n int
		a api.Whole
	}{
		{0, api.Whole{}}, {1, of(1)}, {-1, minus(1)}, {65535, of(65535)}, {65536, of(0, 1)},
		{-65537, minus(1, 1)}, {1 << 32, of(0, 0, 1)}, {-1 << 48, minus(0, 0, 0, 1)},
		{math.MaxInt64, of(65535, 65535, 65535, 32767)},
		{math.MinInt64, minus(0, 0, 0, 32768)},
		{math.MinInt64 + 1, minus(65535, 65535, 65535, 32767)},
	} {
		if a := whole.FromInt(c.n); !whole.Same(a, c.a) || !whole.Valid(a) {
			t.Errorf("FromInt(%d) = %v", c.n, a)
		}
		if n, e := whole.Int(c.a); n != c.n || e != api.OK {
			t.Errorf("Int(%v) = %d, error %d", c.a, n, e)
		}
	}
	for _, a := range []api.Whole{
		of(0, 0, 0, 32768), minus(1, 0, 0, 32768), greatest(4), minus(greatest(4).Limbs...),
		of(0, 0, 0, 0, 1), minus(0, 0, 0, 0, 1), greatest(whole.MaxWide),
	} {
		if n, e := whole.Int(a); n != 0 || e != api.ErrLong {
			t.Errorf("Int(%v) = %d, error %d", a, n, e)
		}
	}
}

// P1.2: Cmp.
func TestCmp(t *testing.T) {
	ascending := []api.Whole{
		minus(greatest(whole.MaxWide).Limbs...), minus(0, 0, 1), minus(1, 1), minus(0, 1), minus(65535), minus(2), minus(1),
		{},
		of(1), of(2), of(65535), of(0, 1), of(1, 1), of(0, 2), of(65535, 2), of(0, 0, 1), power(16*whole.MaxWide - 1), greatest(whole.MaxWide),
	}
	for i, a := range ascending {
		for j, b := range ascending {
			want := 0
			if i < j {
				want = -1
			} else if i > j {
				want = 1
			}
			if got := whole.Cmp(a, b); got != want {
				t.Errorf("Cmp of the numbers %d and %d: %d", i, j, got)
			}
		}
	}
	for i, a := range invalid() {
		for _, b := range []api.Whole{{}, of(1), minus(1), a, of(0)} {
			if whole.Cmp(a, b) != 0 || whole.Cmp(b, a) != 0 {
				t.Errorf("Cmp of the invalid number %d is not 0", i)
			}
		}
	}
}

// P1.5: invalid arguments, in each place; ErrArg comes before all other errors.
func TestInvalidArguments(t *testing.T) {
	for i, a := range invalid() {
		if n, e := whole.Int(a); n != 0 || e != api.ErrArg {
			t.Errorf("Int of the invalid number %d: %d, error %d", i, n, e)
		}
		if s, e := whole.Text(a); s != "" || e != api.ErrArg {
			t.Errorf("Text of the invalid number %d: %q, error %d", i, s, e)
		}
		for name, operation := range operations() {
			for _, b := range []api.Whole{{}, of(1), minus(7, 7), greatest(whole.MaxWide), a} {
				if x, e := operation(a, b); !isZero(x) || e != api.ErrArg {
					t.Errorf("%s with the invalid number %d first: %v, error %d", name, i, x, e)
				}
				if x, e := operation(b, a); !isZero(x) || e != api.ErrArg {
					t.Errorf("%s with the invalid number %d second: %v, error %d", name, i, x, e)
				}
			}
		}
	}
}

// R3: no function modifies an argument or its spare capacity, and no result shares memory with anything else.
func TestMemory(t *testing.T) {
	r := rand.New(rand.NewSource(5))
	for range 200 {
		a, b := withSpare(random(r, 12)), withSpare(random(r, 12))
		if len(b.Limbs) == 0 {
			continue
		}
		beforeA, beforeB := withSpare(a), withSpare(b)
		results := resultsOf(a, b)
		for i := range results {
			others := append(append([]api.Whole(nil), results[:i]...), results[i+1:]...)
			before := make([]api.Whole, len(others))
			for k, x := range others {
				before[k] = withSpare(x)
			}
			invert(results[i])
			for k, x := range others {
				if !whole.Same(x, before[k]) {
					t.Fatal("results share memory")
				}
			}
		}
		if !sameWithSpare(a, beforeA) || !sameWithSpare(b, beforeB) {
			t.Fatal("an argument was modified, or shares memory with a result")
		}
	}
}

// resultsOf returns the results of all functions; b is not 0.
func resultsOf(a, b api.Whole) []api.Whole {
	var results []api.Whole
	add := func(l ...api.Whole) { results = append(results, l...) }
	for _, operation := range operations() {
		x, _ := operation(a, b)
		y, _ := operation(b, b)
		z, _ := operation(api.Whole{}, b)
		add(x, y, z)
	}
	x, _ := whole.Add(a, api.Whole{})
	y, _ := whole.Gcd(a, api.Whole{})
	q, m, _ := whole.DivMod(a, b)
	text, _ := whole.Text(a)
	n, _ := whole.Parse(text)
	again, _ := whole.Parse(text)
	add(x, y, q, m, n, again, whole.FromInt(-70000), whole.FromInt(-70000))
	whole.Int(a)
	whole.Cmp(a, b)
	whole.Same(a, b)
	whole.Valid(a)
	return results
}

// invert changes all limbs of a number.
func invert(a api.Whole) {
	for i := range a.Limbs {
		a.Limbs[i] = ^a.Limbs[i]
	}
}

// withSpare returns a copy of a number whose limbs have spare capacity with something in it.
func withSpare(a api.Whole) api.Whole {
	n := len(a.Limbs)
	limbs := append(append([]uint16(nil), a.Limbs...), 11, 22, 33)
	return api.Whole{Neg: a.Neg, Limbs: limbs[:n]}
}

// sameWithSpare reports whether numbers and what lies behind them are the same.
func sameWithSpare(a, b api.Whole) bool {
	n := len(a.Limbs)
	return whole.Same(a, b) && whole.Same(of(a.Limbs[n:n+3]...), of(b.Limbs[n:n+3]...))
}

// R5: nil and empty limbs mean the same.
func TestNilAndEmpty(t *testing.T) {
	empty := api.Whole{Limbs: []uint16{}}
	for _, b := range []api.Whole{{}, empty, of(7), minus(0, 1)} {
		for name, operation := range operations() {
			x, e := operation(api.Whole{}, b)
			y, f := operation(empty, b)
			if !whole.Same(x, y) || e != f {
				t.Errorf("%s of 0: %v or %v, error %d or %d", name, x, y, e, f)
			}
			x, e = operation(b, api.Whole{})
			y, f = operation(b, empty)
			if !whole.Same(x, y) || e != f {
				t.Errorf("%s with 0: %v or %v, error %d or %d", name, x, y, e, f)
			}
		}
	}
	if s, e := whole.Text(empty); s != "0" || e != api.OK {
		t.Errorf("Text of 0: %q, error %d", s, e)
	}
	if n, e := whole.Int(empty); n != 0 || e != api.OK {
		t.Errorf("Int of 0: %d, error %d", n, e)
	}
}
