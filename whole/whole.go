// Package whole computes with whole numbers of any size. It is layer 1: see shared/doc/01-whole.md.
package whole

import (
	"annuitant/api"
)

// Limits and errors.
const (
	MaxWide           = 4 * api.MaxLimbs // limbs of a whole number
	ErrText api.Errno = 10               // a text that is not a decimal form
	ErrZero api.Errno = 11               // division by zero
)

// maxInt is the greatest int.
const maxInt = 1<<63 - 1

// Valid reports whether a is valid.
func Valid(a api.Whole) bool {
	n := len(a.Limbs)
	if n == 0 {
		return !a.Neg
	}
	return n <= MaxWide && a.Limbs[n-1] != 0
}

// Same reports whether the signs and the limbs of a and b are equal, also if they are invalid.
func Same(a, b api.Whole) bool {
	if a.Neg != b.Neg || len(a.Limbs) != len(b.Limbs) {
		return false
	}
	for i, limb := range a.Limbs {
		if limb != b.Limbs[i] {
			return false
		}
	}
	return true
}

// FromInt returns n.
func FromInt(n int) api.Whole {
	size := uint64(n)
	if n < 0 {
		size = -size
	}
	return number(n < 0, limbsOf(size))
}

// Int returns a as an int.
func Int(a api.Whole) (int, api.Errno) {
	if !allValid(a) {
		return 0, api.ErrArg
	}
	if len(a.Limbs) > wordLimbs {
		return 0, api.ErrLong
	}
	size := word(a.Limbs)
	if a.Neg && size <= maxInt+1 {
		return int(-size), api.OK
	}
	if a.Neg || size > maxInt {
		return 0, api.ErrLong
	}
	return int(size), api.OK
}

// Add returns a + b.
func Add(a, b api.Whole) (api.Whole, api.Errno) {
	return join(sum, a, b)
}

// Sub returns a - b.
func Sub(a, b api.Whole) (api.Whole, api.Errno) {
	return join(difference, a, b)
}

// Mul returns a * b.
func Mul(a, b api.Whole) (api.Whole, api.Errno) {
	return join(product, a, b)
}

// DivMod returns the quotient, rounded down, and the remainder of a and b.
func DivMod(a, b api.Whole) (api.Whole, api.Whole, api.Errno) {
	if !allValid(a, b) {
		return api.Whole{}, api.Whole{}, api.ErrArg
	}
	if len(b.Limbs) == 0 {
		return api.Whole{}, api.Whole{}, ErrZero
	}
	quotient, rest := divide(a.Limbs, b.Limbs)
	if a.Neg != b.Neg && len(rest) > 0 {
		quotient = combine(quotient, limbsOf(1), 1, 1)
		rest = combine(b.Limbs, rest, 1, -1)
	}
	return number(a.Neg != b.Neg, quotient), number(b.Neg, rest), api.OK
}

// Gcd returns the greatest common divisor of a and b.
func Gcd(a, b api.Whole) (api.Whole, api.Errno) {
	return join(divisor, a, b)
}

// Cmp returns -1, 0 or 1 if a is less than, equal to, or greater than b; 0 if one of them is invalid.
func Cmp(a, b api.Whole) int {
	if !allValid(a, b) {
		return 0
	}
	switch {
	case a.Neg && b.Neg:
		return compare(b.Limbs, a.Limbs)
	case a.Neg:
		return -1
	case b.Neg:
		return 1
	}
	return compare(a.Limbs, b.Limbs)
}

// allValid reports whether all numbers are valid.
func allValid(numbers ...api.Whole) bool {
	for _, a := range numbers {
		if !Valid(a) {
			return false
		}
	}
	return true
}

// join joins numbers, at least two, by an operation, from the left.
// It returns ErrArg if one of them is invalid, and ErrLong if the result is too long.
func join(operation func(a, b api.Whole) api.Whole, numbers ...api.Whole) (api.Whole, api.Errno) {
	if !allValid(numbers...) {
		return api.Whole{}, api.ErrArg
	}
	result := numbers[0]
	for _, a := range numbers[1:] {
		result = operation(result, a)
	}
	if len(result.Limbs) > MaxWide {
		return api.Whole{}, api.ErrLong
	}
	return result, api.OK
}

// number returns the number with a sign and a size; the sign of 0 is ignored.
func number(neg bool, size []uint16) api.Whole {
	return api.Whole{Neg: neg && len(size) > 0, Limbs: size}
}

func sum(a, b api.Whole) api.Whole {
	if compare(a.Limbs, b.Limbs) < 0 {
		a, b = b, a
	}
	factor := int64(1)
	if a.Neg != b.Neg {
		factor = -1
	}
	return number(a.Neg, combine(a.Limbs, b.Limbs, 1, factor))
}

func difference(a, b api.Whole) api.Whole {
	return sum(a, number(!b.Neg, b.Limbs))
}

func product(a, b api.Whole) api.Whole {
	return number(a.Neg != b.Neg, multiply(a.Limbs, b.Limbs))
}

func divisor(a, b api.Whole) api.Whole {
	return number(false, commonDivisor(a.Limbs, b.Limbs))
}
