package frac_test

import (
	"math/big"
	"math/rand"
	"testing"

	"annuitant/api"
	"annuitant/frac"
	"annuitant/whole"
)

// maxBits is the number of bits of a numerator or denominator.
const maxBits = 16 * api.MaxLimbs

// rat returns the library's fraction with a text, which serves as the oracle.
func rat(text string) *big.Rat {
	a, ok := new(big.Rat).SetString(text)
	if !ok {
		panic(text)
	}
	return a
}

// of returns the fraction that a text of the library is, not by way of Parse.
func of(text string) api.Frac { return fromRat(rat(text)) }

// power returns 2 to the power n.
func power(n int) *big.Int { return new(big.Int).Lsh(big.NewInt(1), uint(n)) }

// most is the greatest number of MaxLimbs limbs.
func most() *big.Int { return new(big.Int).Sub(power(maxBits), big.NewInt(1)) }

// ratio returns the fraction of two numbers of the library.
func ratio(n, d *big.Int) *big.Rat { return new(big.Rat).SetFrac(n, d) }

// integer returns the fraction that a number of the library is.
func integer(n *big.Int) *big.Rat { return new(big.Rat).SetInt(n) }

// fromBig returns the whole number that a number of the library is.
func fromBig(n *big.Int) api.Whole {
	a := api.Whole{Neg: n.Sign() < 0}
	bytes := new(big.Int).Abs(n).Bytes()
	for i := len(bytes) - 1; i >= 0; i -= 2 {
		limb := uint16(bytes[i])
		if i > 0 {
			limb |= uint16(bytes[i-1]) << 8
		}
		a.Limbs = append(a.Limbs, limb)
	}
	return a
}

// fromRat returns the fraction that a fraction of the library is.
func fromRat(a *big.Rat) api.Frac {
	return api.Frac{N: fromBig(a.Num()), D: fromBig(a.Denom())}
}

// toBig returns a as a number of the library.
func toBig(a api.Whole) *big.Int {
	n := new(big.Int)
	for i := len(a.Limbs) - 1; i >= 0; i-- {
		n.Lsh(n, 16).Or(n, big.NewInt(int64(a.Limbs[i])))
	}
	if a.Neg {
		n.Neg(n)
	}
	return n
}

// show returns a text even of an invalid fraction.
func show(a api.Frac) string { return toBig(a.N).String() + "/" + toBig(a.D).String() }

// tooLong reports whether a fraction is too long.
func tooLong(a *big.Rat) bool {
	return a.Num().BitLen() > maxBits || a.Denom().BitLen() > maxBits
}

// isNothing reports whether a is the zero value, except that an empty slice is as good as nil.
func isNothing(a api.Frac) bool { return isZero(a.N) && isZero(a.D) }

func isZero(a api.Whole) bool { return !a.Neg && len(a.Limbs) == 0 }

// expect checks that a result is the fraction want, or ErrLong if that is too long.
func expect(t *testing.T, want *big.Rat, got api.Frac, e api.Errno, what ...any) {
	t.Helper()
	if tooLong(want) {
		expectError(t, api.ErrLong, got, e, what...)
		return
	}
	if e != api.OK || !frac.Same(got, fromRat(want)) || !frac.Valid(got) {
		t.Errorf("%v: %s, error %d; want %v", what, show(got), e, want)
	}
}

// expectError checks that a result is an error, and nothing else.
func expectError(t *testing.T, want api.Errno, got api.Frac, e api.Errno, what ...any) {
	t.Helper()
	if e != want || !isNothing(got) {
		t.Errorf("%v: %s, error %d; want error %d", what, show(got), e, want)
	}
}

// randomInt returns a number of at most n limbs, many of which are at the edges of their range.
func randomInt(r *rand.Rand, n int) *big.Int {
	edges := []uint16{0, 0, 1, 0x7fff, 0x8000, 0xfffe, 0xffff, 0xffff}
	limbs := make([]uint16, r.Intn(n+1))
	plain := r.Intn(2) == 0
	for i := range limbs {
		limbs[i] = uint16(r.Uint32())
		if !plain && r.Intn(4) > 0 {
			limbs[i] = edges[r.Intn(len(edges))]
		}
	}
	return toBig(api.Whole{Neg: r.Intn(2) == 0, Limbs: limbs})
}

// random returns a fraction whose parts have at most n limbs.
func random(r *rand.Rand, n int) *big.Rat {
	d := randomInt(r, n)
	if d.Sign() == 0 {
		d.SetInt64(1 + int64(r.Intn(9)))
	}
	return ratio(randomInt(r, n), d)
}

// invalid returns fractions that are not valid.
func invalid() []api.Frac {
	w := whole.FromInt
	leading := api.Whole{Limbs: []uint16{3, 0}}
	negativeZero := api.Whole{Neg: true}
	long := fromBig(power(maxBits))
	even := fromBig(power(maxBits - 1))
	wide := api.Whole{Limbs: make([]uint16, 1<<17)}
	wide.Limbs[1<<17-1] = 1
	return []api.Frac{
		{},
		{N: w(1)}, {N: w(-1)}, {D: api.Whole{Limbs: []uint16{0}}}, {N: w(1), D: api.Whole{Limbs: []uint16{0}}},
		{N: w(1), D: w(-1)}, {N: w(-1), D: w(-1)}, {N: w(1), D: w(-2)}, {N: w(0), D: w(-1)}, {N: w(1), D: negativeZero},
		{N: w(0), D: w(2)}, {N: w(2), D: w(2)}, {N: w(2), D: w(4)}, {N: w(-6), D: w(9)}, {N: w(65536), D: w(1 << 20)},
		{N: even, D: even}, {N: even, D: w(2)}, {N: w(-4), D: even},
		{N: negativeZero, D: w(1)}, {N: leading, D: w(1)}, {N: leading, D: w(2)}, {N: w(1), D: leading},
		{N: api.Whole{Limbs: []uint16{0}}, D: w(1)}, {N: w(1), D: api.Whole{Limbs: []uint16{1, 0}}},
		{N: long, D: w(1)}, {N: w(1), D: long}, {N: w(-1), D: long}, {N: long, D: w(3)}, {N: w(0), D: long},
		{N: fromBig(power(4*maxBits - 1)), D: w(1)}, {N: w(1), D: fromBig(power(4*maxBits - 1))},
		{N: fromBig(power(4 * maxBits)), D: w(1)}, {N: wide, D: w(1)}, {N: w(1), D: wide},
	}
}

// binary is an operation on two fractions.
type binary = func(a, b api.Frac) (api.Frac, api.Errno)

// operations returns the operations on two fractions.
func operations() map[string]binary {
	return map[string]binary{"Add": frac.Add, "Sub": frac.Sub, "Mul": frac.Mul, "Div": frac.Div}
}

// oracles returns the operations of the library; b is not 0.
func oracles() map[string]func(a, b *big.Rat) *big.Rat {
	return map[string]func(a, b *big.Rat) *big.Rat{
		"Add": func(a, b *big.Rat) *big.Rat { return new(big.Rat).Add(a, b) },
		"Sub": func(a, b *big.Rat) *big.Rat { return new(big.Rat).Sub(a, b) },
		"Mul": func(a, b *big.Rat) *big.Rat { return new(big.Rat).Mul(a, b) },
		"Div": func(a, b *big.Rat) *big.Rat { return new(big.Rat).Quo(a, b) },
	}
}

// edges returns fractions at the limits and near 0 and 1.
func edges() []*big.Rat {
	one := big.NewInt(1)
	half := power(maxBits - 1)
	list := []*big.Rat{
		rat("0"), rat("1"), rat("2"), rat("1/2"), rat("1/3"), rat("65535"), rat("65536"), rat("1/65536"), rat("65535/65536"),
		integer(most()), ratio(one, most()), integer(half), ratio(one, half), ratio(most(), half), ratio(half, most()),
		ratio(new(big.Int).Sub(half, one), most()), integer(power(maxBits / 2)), ratio(one, power(maxBits/2)),
		integer(power(maxBits/2 - 1)), ratio(most(), big.NewInt(2)), ratio(big.NewInt(2), most()),
	}
	for _, a := range list {
		list = append(list, new(big.Rat).Neg(a))
	}
	return list
}
