package whole_test

import (
	"math/big"
	"math/rand"
	"testing"

	"annuitant/api"
	"annuitant/whole"
)

// expect compares the result of each operation with that of the library (P1.1, P1.3).
func expect(t *testing.T, a, b api.Whole) {
	t.Helper()
	for name, oracle := range oracles() {
		if len(b.Limbs) == 0 && (name == "DivMod quotient" || name == "DivMod rest") {
			continue
		}
		want := oracle(toBig(a), toBig(b))
		got, e := operations()[name](a, b)
		if tooLong(want) {
			if !isZero(got) || e != api.ErrLong {
				t.Errorf("%s(%v, %v): %v, error %d instead of ErrLong", name, toBig(a), toBig(b), toBig(got), e)
			}
			continue
		}
		if e != api.OK || !whole.Same(got, fromBig(want)) || !whole.Valid(got) {
			t.Errorf("%s(%v, %v) = %v, error %d; want %v", name, toBig(a), toBig(b), toBig(got), e, want)
		}
	}
}

// P1.3: the chapter's examples.
func TestExamples(t *testing.T) {
	if a, e := whole.Add(whole.FromInt(65535), whole.FromInt(1)); !whole.Same(a, of(0, 1)) || e != api.OK {
		t.Errorf("Add(65535, 1) = %v, error %d", a, e)
	}
	for _, c := range [][4]int{
		{7, 2, 3, 1}, {7, -2, -4, -1}, {-7, 2, -4, 1}, {-7, -2, 3, -1},
		{6, -2, -3, 0}, {-6, 2, -3, 0}, {0, 5, 0, 0}, {0, -5, 0, 0},
		{1, 5, 0, 1}, {-1, 5, -1, 4}, {1, -5, -1, -4}, {-1, -5, 0, -1},
	} {
		q, r, e := whole.DivMod(whole.FromInt(c[0]), whole.FromInt(c[1]))
		if e != api.OK || !whole.Same(q, whole.FromInt(c[2])) || !whole.Same(r, whole.FromInt(c[3])) {
			t.Errorf("DivMod(%d, %d) = %v, %v, error %d", c[0], c[1], q, r, e)
		}
	}
	for _, c := range [][3]int{
		{-12, 18, 6}, {12, -18, 6}, {-12, -18, 6}, {0, 0, 0}, {0, -7, 7}, {-7, 0, 7}, {1, 0, 1}, {17, 65537, 1}, {65536, 65536, 65536},
	} {
		if g, e := whole.Gcd(whole.FromInt(c[0]), whole.FromInt(c[1])); e != api.OK || !whole.Same(g, whole.FromInt(c[2])) {
			t.Errorf("Gcd(%d, %d) = %v, error %d", c[0], c[1], g, e)
		}
	}
}

// P1.3: division by 0.
func TestZero(t *testing.T) {
	for _, a := range []api.Whole{{}, of(1), minus(1), greatest(whole.MaxWide)} {
		for _, zero := range []api.Whole{{}, {Limbs: []uint16{}}} {
			q, r, e := whole.DivMod(a, zero)
			if !isZero(q) || !isZero(r) || e != whole.ErrZero {
				t.Errorf("DivMod(%v, 0) = %v, %v, error %d", a, q, r, e)
			}
		}
	}
	if whole.ErrZero != 11 || whole.ErrText != 10 || whole.MaxWide != 1024 {
		t.Error("a constant is wrong")
	}
}

// P1.3: results around the limit of MaxWide limbs.
func TestLimits(t *testing.T) {
	most := greatest(whole.MaxWide)
	least := minus(most.Limbs...)
	half := greatest(whole.MaxWide / 2)
	numbers := []api.Whole{
		{}, of(1), minus(1), of(2), minus(2), of(65535), of(0, 1), most, least,
		power(16*whole.MaxWide - 1), minus(power(16*whole.MaxWide - 1).Limbs...),
		power(16*whole.MaxWide - 16), power(8 * whole.MaxWide), power(8*whole.MaxWide - 1),
		half, minus(half.Limbs...), greatest(whole.MaxWide/2 + 1), greatest(whole.MaxWide - 1),
	}
	for _, a := range numbers {
		for _, b := range numbers {
			expect(t, a, b)
		}
	}
	for name, x := range map[string]func() (api.Whole, api.Errno){
		"most + 1":      func() (api.Whole, api.Errno) { return whole.Add(most, of(1)) },
		"least - 1":     func() (api.Whole, api.Errno) { return whole.Sub(least, of(1)) },
		"most - least":  func() (api.Whole, api.Errno) { return whole.Sub(most, least) },
		"most * most":   func() (api.Whole, api.Errno) { return whole.Mul(most, most) },
		"2^8192 * same": func() (api.Whole, api.Errno) { return whole.Mul(power(8192), power(8192)) },
	} {
		if a, e := x(); !isZero(a) || e != api.ErrLong {
			t.Errorf("%s: error %d", name, e)
		}
	}
}

// P1.3: ints, exhaustively where they are small.
func TestSmall(t *testing.T) {
	for a := -40; a <= 40; a++ {
		for b := -40; b <= 40; b++ {
			expect(t, whole.FromInt(a), whole.FromInt(b))
		}
	}
}

// P1.3: random numbers of all lengths.
func TestRandom(t *testing.T) {
	r := rand.New(rand.NewSource(1))
	for _, limbs := range []int{1, 2, 3, 4, 5, 6, 8, 12, 20, 40} {
		for range 400 {
			expect(t, random(r, limbs), random(r, limbs))
			expect(t, random(r, limbs), random(r, 5))
		}
	}
	for range 10 {
		expect(t, random(r, whole.MaxWide), random(r, whole.MaxWide))
		expect(t, random(r, whole.MaxWide), random(r, whole.MaxWide/2))
	}
}

// P1.3: divisions whose guessed quotients are wrong: products of numbers, and their neighbours.
func TestNearMultiples(t *testing.T) {
	r := rand.New(rand.NewSource(2))
	for range 3000 {
		b, q := toBig(random(r, 8)), toBig(random(r, 8))
		a := new(big.Int).Mul(b, q)
		for d := int64(-1); d <= 1; d++ {
			expect(t, fromBig(new(big.Int).Add(a, big.NewInt(d))), fromBig(b))
		}
	}
}

// P1.3: divisors of numbers with a common factor, and of neighbours in Fibonacci's
// sequence, which need the most steps.
func TestDivisors(t *testing.T) {
	r := rand.New(rand.NewSource(3))
	for _, limbs := range []int{1, 3, 10, 60, 300} {
		for range 20 {
			factor := toBig(random(r, limbs))
			a := new(big.Int).Mul(factor, toBig(random(r, limbs)))
			b := new(big.Int).Mul(factor, toBig(random(r, 2*limbs)))
			expect(t, fromBig(a), fromBig(b))
		}
	}
	a, b := big.NewInt(1), big.NewInt(1)
	for n := 0; ; n++ {
		a, b = b, new(big.Int).Add(a, b)
		if tooLong(b) {
			break
		}
		if n < 500 || n%997 == 0 || b.BitLen() == 16*whole.MaxWide {
			g, e := whole.Gcd(fromBig(b), fromBig(a))
			if !whole.Same(g, of(1)) || e != api.OK {
				t.Fatalf("Gcd of neighbours at %d: %v, error %d", n, g, e)
			}
		}
	}
}

// P1.6: the rules of arithmetic.
func TestRules(t *testing.T) {
	r := rand.New(rand.NewSource(4))
	get := func(operation binary, a, b api.Whole) api.Whole {
		x, e := operation(a, b)
		if e != api.OK {
			t.Fatalf("error %d", e)
		}
		return x
	}
	for range 500 {
		a, b, c := random(r, 9), random(r, 9), random(r, 9)
		same := func(name string, x, y api.Whole) {
			if !whole.Same(x, y) || whole.Cmp(x, y) != 0 {
				t.Errorf("%s: %v, %v, %v", name, a, b, c)
			}
		}
		same("a+b = b+a", get(whole.Add, a, b), get(whole.Add, b, a))
		same("a*b = b*a", get(whole.Mul, a, b), get(whole.Mul, b, a))
		same("(a+b)+c = a+(b+c)", get(whole.Add, get(whole.Add, a, b), c), get(whole.Add, a, get(whole.Add, b, c)))
		same("(a*b)*c = a*(b*c)", get(whole.Mul, get(whole.Mul, a, b), c), get(whole.Mul, a, get(whole.Mul, b, c)))
		same("a*(b+c) = a*b+a*c", get(whole.Mul, a, get(whole.Add, b, c)), get(whole.Add, get(whole.Mul, a, b), get(whole.Mul, a, c)))
		same("(a+b)-b = a", get(whole.Sub, get(whole.Add, a, b), b), a)
		same("a-a = 0", get(whole.Sub, a, a), api.Whole{})
		same("a+0 = a", get(whole.Add, a, api.Whole{}), a)
		same("a*1 = a", get(whole.Mul, a, of(1)), a)
		if len(b.Limbs) > 0 {
			q, m, _ := whole.DivMod(a, b)
			same("q*b+r = a", get(whole.Add, get(whole.Mul, q, b), m), a)
			same("a*b/b = a", get(quotient, get(whole.Mul, a, b), b), a)
			if len(m.Limbs) > 0 && m.Neg != b.Neg || whole.Cmp(of(m.Limbs...), of(b.Limbs...)) >= 0 {
				t.Errorf("remainder of %v by %v: %v", a, b, m)
			}
		}
		if whole.Cmp(a, b) != -whole.Cmp(b, a) || (whole.Cmp(a, b) == 0) != whole.Same(a, b) {
			t.Errorf("Cmp(%v, %v) = %d, and %d in the other order", a, b, whole.Cmp(a, b), whole.Cmp(b, a))
		}
	}
}

// Fractions of MaxLimbs limbs are reduced after each operation.
func BenchmarkGcd(b *testing.B) {
	r := rand.New(rand.NewSource(6))
	limbs := func() []uint16 {
		l := make([]uint16, 512)
		for i := range l {
			l[i] = uint16(r.Uint32() | 1)
		}
		return l
	}
	x, y := of(limbs()...), of(limbs()...)
	for b.Loop() {
		whole.Gcd(x, y)
	}
}
