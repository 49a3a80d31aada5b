package frac

import (
	"math/bits"

	"annuitant/api"
	"annuitant/whole"
)

// exact.go: fractions by their parts, and operations on these parts.

// exact is a fraction; its numerator N and its denominator D are promoted.
type exact struct{ api.Frac }

func (x exact) valid() bool {
	if !whole.Valid(x.N) || !whole.Valid(x.D) || tooLong(x.N) || tooLong(x.D) {
		return false
	}
	if isZero(x.D) || x.D.Neg {
		return false
	}
	if isOne(x.D) {
		return true // what is most frequent needs no divisor
	}
	divisor, _ := whole.Gcd(x.N, x.D)
	return isOne(divisor)
}

func (x exact) negative() bool {
	return x.N.Neg
}

// reciprocal returns 1 / x, x not 0. It shares memory with x.
func (x exact) reciprocal() exact {
	return exact{api.Frac{
		N: api.Whole{Neg: x.N.Neg, Limbs: x.D.Limbs},
		D: api.Whole{Limbs: x.N.Limbs},
	}}
}

// join joins two fractions by an operation.
func join(operation func(x, y exact) (n, d api.Whole), a, b api.Frac) (api.Frac, api.Errno) {
	x, y := exact{a}, exact{b}
	if !x.valid() || !y.valid() {
		return api.Frac{}, api.ErrArg
	}
	return Make(operation(x, y))
}

func sum(x, y exact) (n, d api.Whole) {
	return plus(times(x.N, y.D), times(y.N, x.D)), times(x.D, y.D)
}

func difference(x, y exact) (n, d api.Whole) {
	return minus(times(x.N, y.D), times(y.N, x.D)), times(x.D, y.D)
}

func product(x, y exact) (n, d api.Whole) {
	return times(x.N, y.N), times(x.D, y.D)
}

func quotient(x, y exact) (n, d api.Whole) {
	return times(x.N, y.D), times(x.D, y.N)
}

// limited returns the fraction with the numerator n and the denominator d,
// which are in lowest terms; ErrLong if it is too long.
func limited(n, d api.Whole) (api.Frac, api.Errno) {
	if tooLong(n) || tooLong(d) {
		return api.Frac{}, api.ErrLong
	}
	return api.Frac{N: n, D: d}, api.OK
}

func tooLong(a api.Whole) bool {
	return len(a.Limbs) > api.MaxLimbs
}

func isZero(a api.Whole) bool {
	return len(a.Limbs) == 0
}

func isOne(a api.Whole) bool {
	return len(a.Limbs) == 1 && a.Limbs[0] == 1 && !a.Neg
}

// power returns a to the power n; if that is too long, it may return another
// number that is too long: no lesser power of a is longer.
func power(a api.Whole, n uint64) api.Whole {
	result := whole.FromInt(1)
	for i := bits.Len64(n) - 1; i >= 0 && !tooLong(result); i-- {
		result = times(result, result)
		if n>>i&1 == 1 {
			result = times(result, a)
		}
	}
	return result
}

// The following operations return no errors: what is computed with here has at
// most as many limbs as three parts of fractions together, less than MaxWide.

func plus(a, b api.Whole) api.Whole {
	c, _ := whole.Add(a, b)
	return c
}

func minus(a, b api.Whole) api.Whole {
	c, _ := whole.Sub(a, b)
	return c
}

func times(a, b api.Whole) api.Whole {
	c, _ := whole.Mul(a, b)
	return c
}

// divide returns the quotient, rounded down, and the rest; b is not 0.
func divide(a, b api.Whole) (quotient, rest api.Whole) {
	quotient, rest, _ = whole.DivMod(a, b)
	return quotient, rest
}
