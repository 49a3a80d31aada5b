package frac_test

import (
	"math"
	"math/big"
	"math/rand"
	"testing"

	"annuitant/api"
	"annuitant/frac"
	"annuitant/whole"
)

// P2.2: Make, for ints.
func TestMake(t *testing.T) {
	for _, c := range []struct {
		n, d int
		want string
	}{
		{4, -6, "-2/3"}, {-4, 6, "-2/3"}, {4, 6, "2/3"}, {-4, -6, "2/3"},
		{0, 5, "0"}, {0, -5, "0"}, {6, 3, "2"}, {6, -3, "-2"}, {-1, -1, "1"}, {1, 65536, "1/65536"}, {1 << 62, 1 << 60, "4"},
		{math.MinInt64, math.MinInt64, "1"}, {math.MinInt64, -1, "9223372036854775808"},
	} {
		a, e := frac.Make(whole.FromInt(c.n), whole.FromInt(c.d))
		expect(t, rat(c.want), a, e, "Make", c.n, c.d)
	}
	for n := -30; n <= 30; n++ {
		for d := -30; d <= 30; d++ {
			a, e := frac.Make(whole.FromInt(n), whole.FromInt(d))
			if d == 0 {
				expectError(t, frac.ErrZero, a, e, "Make", n, d)
			} else {
				expect(t, big.NewRat(int64(n), int64(d)), a, e, "Make", n, d)
			}
		}
	}
}

// P2.2: Make, for whole numbers that are longer than a fraction's may be.
func TestMakeOfLongNumbers(t *testing.T) {
	r := rand.New(rand.NewSource(1))
	one, greatest := big.NewInt(1), new(big.Int).Sub(power(4*maxBits), big.NewInt(1))
	check := func(n, d *big.Int) {
		t.Helper()
		a, e := frac.Make(fromBig(n), fromBig(d))
		expect(t, ratio(n, d), a, e, "Make of long numbers")
	}
	check(power(maxBits), one)
	check(one, power(maxBits))
	check(power(maxBits), big.NewInt(-2))
	check(most(), one)
	check(one, most())
	check(power(4*maxBits-1), power(3*maxBits))
	check(power(4*maxBits-1), power(3*maxBits-1))
	check(power(3*maxBits), power(4*maxBits-1))
	check(power(3*maxBits-1), power(4*maxBits-1))
	check(greatest, greatest)
	check(new(big.Int).Neg(greatest), greatest)
	check(greatest, one)
	for range 20 {
		g := randomInt(r, 3*api.MaxLimbs)
		n, d := randomInt(r, api.MaxLimbs), randomInt(r, api.MaxLimbs)
		if g.Sign() != 0 && d.Sign() != 0 {
			check(new(big.Int).Mul(n, g), new(big.Int).Mul(d, g))
		}
	}
}

// P2.2: Make of numbers that are not valid; ErrArg comes before ErrZero and ErrLong.
func TestMakeOfInvalidNumbers(t *testing.T) {
	numbers := []api.Whole{{}, whole.FromInt(1), whole.FromInt(-2), fromBig(power(maxBits)), fromBig(power(4*maxBits - 1))}
	for i, a := range []api.Whole{
		{Neg: true}, {Limbs: []uint16{0}}, {Limbs: []uint16{1, 0}}, {Neg: true, Limbs: []uint16{0, 0}},
		fromBig(power(4 * maxBits)), {Limbs: make([]uint16, 1<<17)},
	} {
		for _, b := range append(numbers, a) {
			x, e := frac.Make(a, b)
			expectError(t, api.ErrArg, x, e, "Make with the invalid numerator", i)
			x, e = frac.Make(b, a)
			expectError(t, api.ErrArg, x, e, "Make with the invalid denominator", i)
		}
	}
	for _, n := range numbers {
		x, e := frac.Make(n, api.Whole{})
		expectError(t, frac.ErrZero, x, e, "Make", n, 0)
	}
}

// check compares the operations on two fractions, and on one, with those of the library (P2.2, P2.3).
func check(t *testing.T, a, b *big.Rat) {
	t.Helper()
	x, y := fromRat(a), fromRat(b)
	for name, oracle := range oracles() {
		got, e := operations()[name](x, y)
		if name == "Div" && b.Sign() == 0 {
			expectError(t, frac.ErrZero, got, e, name, a, b)
		} else {
			expect(t, oracle(a, b), got, e, name, a, b)
		}
	}
	if got := frac.Cmp(x, y); got != a.Cmp(b) {
		t.Errorf("Cmp(%v, %v) = %d", a, b, got)
	}
	got, e := frac.Neg(x)
	expect(t, new(big.Rat).Neg(a), got, e, "Neg", a)
	checkWhole(t, a)
}

// checkWhole compares Floor, Ceil and Int with the library.
func checkWhole(t *testing.T, a *big.Rat) {
	t.Helper()
	x := fromRat(a)
	floor := new(big.Int).Div(a.Num(), a.Denom()) // rounds down, since the denominator is positive
	ceil := new(big.Int).Set(floor)
	if !a.IsInt() {
		ceil.Add(ceil, big.NewInt(1))
	}
	if got, e := frac.Floor(x); e != api.OK || !whole.Same(got, fromBig(floor)) {
		t.Errorf("Floor(%v) = %v, error %d", a, toBig(got), e)
	}
	if got, e := frac.Ceil(x); e != api.OK || !whole.Same(got, fromBig(ceil)) {
		t.Errorf("Ceil(%v) = %v, error %d", a, toBig(got), e)
	}
	n, want := 0, api.OK
	switch {
	case !a.IsInt():
		want = frac.ErrPart
	case !floor.IsInt64():
		want = api.ErrLong
	default:
		n = int(floor.Int64())
	}
	if got, e := frac.Int(x); got != n || e != want {
		t.Errorf("Int(%v) = %d, error %d", a, got, e)
	}
}

// P2.2, P2.3: the chapter's examples, and others.
func TestExamples(t *testing.T) {
	a, e := frac.Add(of("1/6"), of("1/3"))
	expect(t, rat("1/2"), a, e, "Add(1/6, 1/3)")
	for _, c := range []struct {
		a           string
		floor, ceil int
	}{{"-1/2", -1, 0}, {"1/2", 0, 1}, {"-7/3", -3, -2}, {"7/3", 2, 3}, {"0", 0, 0}, {"-5", -5, -5}, {"5", 5, 5}} {
		if x, e := frac.Floor(of(c.a)); e != api.OK || !whole.Same(x, whole.FromInt(c.floor)) {
			t.Errorf("Floor(%s) = %v, error %d", c.a, x, e)
		}
		if x, e := frac.Ceil(of(c.a)); e != api.OK || !whole.Same(x, whole.FromInt(c.ceil)) {
			t.Errorf("Ceil(%s) = %v, error %d", c.a, x, e)
		}
	}
	if frac.ErrZero != 20 || frac.ErrText != 21 || frac.ErrPart != 22 {
		t.Error("a constant is wrong")
	}
}

// P2.2, P2.3: fractions with small parts, exhaustively.
func TestSmall(t *testing.T) {
	var list []*big.Rat
	for n := int64(-9); n <= 9; n++ {
		for d := int64(1); d <= 7; d++ {
			list = append(list, big.NewRat(n, d))
		}
	}
	for _, a := range list {
		for _, b := range list {
			check(t, a, b)
		}
	}
}

// P2.2, P2.3: results around the limit. Whether a result is too long depends on its value only.
func TestLimits(t *testing.T) {
	for _, a := range edges() {
		for _, b := range edges() {
			check(t, a, b)
		}
	}
	greatest := fromRat(integer(most()))
	for name, x := range map[string]func() (api.Frac, api.Errno){
		"most + 1":    func() (api.Frac, api.Errno) { return frac.Add(greatest, of("1")) },
		"most + 1/2":  func() (api.Frac, api.Errno) { return frac.Add(greatest, of("1/2")) },
		"-most - 1":   func() (api.Frac, api.Errno) { return frac.Sub(of("-1"), greatest) },
		"most * most": func() (api.Frac, api.Errno) { return frac.Mul(greatest, greatest) },
		"1/2 / most":  func() (api.Frac, api.Errno) { return frac.Div(of("1/2"), greatest) },
	} {
		a, e := x()
		expectError(t, api.ErrLong, a, e, name)
	}
	a, b := ratio(most(), power(maxBits-1)), ratio(power(maxBits-1), most())
	x, e := frac.Mul(fromRat(a), fromRat(b))
	expect(t, rat("1"), x, e, "a product of long fractions that is 1")
	x, e = frac.Sub(fromRat(a), fromRat(a))
	expect(t, rat("0"), x, e, "a difference of long fractions that is 0")
	x, e = frac.Add(fromRat(ratio(big.NewInt(1), power(maxBits-1))), fromRat(ratio(big.NewInt(1), power(maxBits-1))))
	expect(t, ratio(big.NewInt(1), power(maxBits-2)), x, e, "a sum whose denominator becomes shorter")
}

// P2.2, P2.3: random fractions of all lengths.
func TestRandom(t *testing.T) {
	r := rand.New(rand.NewSource(2))
	for _, limbs := range []int{1, 2, 3, 4, 6, 10, 30} {
		for range 150 {
			a, b := random(r, limbs), random(r, limbs)
			check(t, a, b)
			check(t, a, new(big.Rat).Inv(new(big.Rat).Add(new(big.Rat).Abs(a), rat("1"))))
			check(t, a, a)
		}
	}
	for range 5 {
		check(t, random(r, api.MaxLimbs/2), random(r, api.MaxLimbs/2))
		check(t, random(r, api.MaxLimbs), random(r, api.MaxLimbs))
	}
}

// P2.3: Int at the limits of an int; a fraction that is long and no whole number is reported as no whole number.
func TestInt(t *testing.T) {
	for _, text := range []string{
		"9223372036854775807", "9223372036854775808", "-9223372036854775808", "-9223372036854775809",
		"0", "1", "-1", "65536", "1/2", "-1/2", "9223372036854775809/2", "-18446744073709551617/2", "18446744073709551616",
	} {
		checkWhole(t, rat(text))
	}
	checkWhole(t, integer(most()))
	checkWhole(t, ratio(most(), power(maxBits-1)))
}

// checkPow compares Pow with the library; the exponent is small.
func checkPow(t *testing.T, a *big.Rat, n int) {
	t.Helper()
	got, e := frac.Pow(fromRat(a), n)
	base, size := a, n
	if n < 0 {
		if a.Sign() == 0 {
			expectError(t, frac.ErrZero, got, e, "Pow", a, n)
			return
		}
		base, size = new(big.Rat).Inv(a), -n
	}
	exponent := big.NewInt(int64(size))
	want := ratio(new(big.Int).Exp(base.Num(), exponent, nil), new(big.Int).Exp(base.Denom(), exponent, nil))
	expect(t, want, got, e, "Pow", a, n)
}

// P2.2: Pow.
func TestPow(t *testing.T) {
	a, e := frac.Pow(of("-2/3"), -3)
	expect(t, rat("-27/8"), a, e, "Pow(-2/3, -3)")
	a, e = frac.Pow(of("0"), 0)
	expect(t, rat("1"), a, e, "Pow(0, 0)")
	for n := -20; n <= 20; n++ {
		for _, text := range []string{"0", "1", "-1", "2", "-2", "1/2", "-3/2", "10", "-7/9", "65536", "1/65536"} {
			checkPow(t, rat(text), n)
		}
	}
	for _, n := range []int{maxBits - 1, maxBits, maxBits + 1, 5000, 2584, 2585} {
		for _, text := range []string{"2", "-2", "1/2", "-1/2", "3", "1/3", "2/3", "-3/2", "1", "-1"} {
			checkPow(t, rat(text), n)
			checkPow(t, rat(text), -n)
		}
	}
	for _, bits := range []int{maxBits / 2, maxBits/2 - 1, maxBits / 3, maxBits/3 + 1, maxBits / 5, maxBits / 7, maxBits - 1} {
		for n := -8; n <= 8; n++ {
			checkPow(t, integer(power(bits)), n)
			checkPow(t, ratio(big.NewInt(-3), power(bits)), n)
		}
	}
	for _, a := range edges() {
		for n := -2; n <= 2; n++ {
			checkPow(t, a, n)
		}
	}
}

// P2.2: exponents at the limits of an int.
func TestPowOfGreatExponents(t *testing.T) {
	for _, n := range []int{math.MaxInt64, math.MaxInt64 - 1, math.MinInt64, math.MinInt64 + 1, 1 << 62, -1 << 62} {
		a, e := frac.Pow(of("1"), n)
		expect(t, rat("1"), a, e, "Pow", 1, n)
		a, e = frac.Pow(of("-1"), n)
		sign := "1"
		if n%2 != 0 {
			sign = "-1"
		}
		expect(t, rat(sign), a, e, "Pow", -1, n)
		a, e = frac.Pow(of("0"), n)
		if n > 0 {
			expect(t, rat("0"), a, e, "Pow", 0, n)
		} else {
			expectError(t, frac.ErrZero, a, e, "Pow", 0, n)
		}
		for _, text := range []string{"2", "-2", "1/2", "-1/2", "3/2"} {
			a, e = frac.Pow(of(text), n)
			expectError(t, api.ErrLong, a, e, "Pow", text, n)
		}
	}
}

// P2.3: the order of fractions.
func TestCmp(t *testing.T) {
	ascending := []api.Frac{
		fromRat(integer(new(big.Int).Neg(most()))), of("-2"), of("-3/2"), of("-4/3"), of("-1"), of("-1/2"), of("-1/3"), of("0"),
		fromRat(ratio(big.NewInt(1), most())), of("1/3"), of("333/998"), of("1/2"), of("1"), of("4/3"), of("3/2"), of("2"), fromRat(integer(most())),
	}
	for i, a := range ascending {
		for j, b := range ascending {
			want := 0
			if i < j {
				want = -1
			} else if i > j {
				want = 1
			}
			if got := frac.Cmp(a, b); got != want {
				t.Errorf("Cmp of the fractions %d and %d: %d", i, j, got)
			}
		}
	}
}

// P2.7: the rules of arithmetic.
func TestRules(t *testing.T) {
	r := rand.New(rand.NewSource(3))
	get := func(operation binary, a, b api.Frac) api.Frac {
		t.Helper()
		x, e := operation(a, b)
		if e != api.OK {
			t.Fatalf("error %d", e)
		}
		return x
	}
	for range 300 {
		a, b, c := fromRat(random(r, 6)), fromRat(random(r, 6)), fromRat(random(r, 6))
		same := func(name string, x, y api.Frac) {
			t.Helper()
			if !frac.Same(x, y) || frac.Cmp(x, y) != 0 {
				t.Errorf("%s: %s, %s, %s", name, show(a), show(b), show(c))
			}
		}
		same("a+b = b+a", get(frac.Add, a, b), get(frac.Add, b, a))
		same("a*b = b*a", get(frac.Mul, a, b), get(frac.Mul, b, a))
		same("(a+b)+c = a+(b+c)", get(frac.Add, get(frac.Add, a, b), c), get(frac.Add, a, get(frac.Add, b, c)))
		same("(a*b)*c = a*(b*c)", get(frac.Mul, get(frac.Mul, a, b), c), get(frac.Mul, a, get(frac.Mul, b, c)))
		same("a*(b+c) = a*b+a*c", get(frac.Mul, a, get(frac.Add, b, c)), get(frac.Add, get(frac.Mul, a, b), get(frac.Mul, a, c)))
		same("(a+b)-b = a", get(frac.Sub, get(frac.Add, a, b), b), a)
		same("a-a = 0", get(frac.Sub, a, a), frac.FromInt(0))
		same("a+0 = a", get(frac.Add, a, frac.FromInt(0)), a)
		same("a*1 = a", get(frac.Mul, a, frac.FromInt(1)), a)
		minus, _ := frac.Neg(a)
		same("a-b = -(b-a)", get(frac.Sub, a, b), get(frac.Mul, frac.FromInt(-1), get(frac.Sub, b, a)))
		same("-a = 0-a", minus, get(frac.Sub, frac.FromInt(0), a))
		if !isZero(b.N) {
			same("a/b*b = a", get(frac.Mul, get(frac.Div, a, b), b), a)
		}
		square, _ := frac.Pow(a, 2)
		same("a^2 = a*a", square, get(frac.Mul, a, a))
		made, _ := frac.Make(a.N, a.D)
		same("N/D = a", made, a)
		if frac.Cmp(a, b) != -frac.Cmp(b, a) || (frac.Cmp(a, b) == 0) != frac.Same(a, b) {
			t.Errorf("Cmp(%s, %s) = %d, and %d in the other order", show(a), show(b), frac.Cmp(a, b), frac.Cmp(b, a))
		}
	}
}

// Upper layers add small fractions most of all.
func BenchmarkAdd(b *testing.B) {
	x, y := of("1/6"), of("1/3")
	for b.Loop() {
		frac.Add(x, y)
	}
}

func BenchmarkAddLong(b *testing.B) {
	r := rand.New(rand.NewSource(4))
	n := func() *big.Int { return new(big.Int).Rand(r, power(maxBits/2)) }
	x, y := fromRat(ratio(n(), n())), fromRat(ratio(n(), n()))
	for b.Loop() {
		frac.Add(x, y)
	}
}
