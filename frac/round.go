package frac

import (
	"annuitant/api"
	"annuitant/whole"
)

// round.go: rounding to multiples of a unit.

// between is a fraction that lies between two multiples of a unit: the one with
// the factor floor, and the next one.
type between struct {
	exact
	floor api.Whole
	half  int // -1, 0 or 1 if it is nearer to the first one, as near to both, or nearer to the next one
}

func (b between) odd() bool {
	return !isZero(b.floor) && b.floor.Limbs[0]&1 == 1
}

// modes returns, by the modes of rounding, whether the next multiple is chosen.
func modes(b between) [api.RoundEven + 1]func() bool {
	return [...]func() bool{
		api.RoundDown:  func() bool { return b.negative() },
		api.RoundUp:    func() bool { return !b.negative() },
		api.RoundFloor: func() bool { return false },
		api.RoundCeil:  func() bool { return true },
		api.RoundHalf:  func() bool { return b.half > 0 || b.half == 0 && !b.negative() },
		api.RoundEven:  func() bool { return b.half > 0 || b.half == 0 && b.odd() },
	}
}

// Round returns a, rounded to a multiple of unit.
func Round(a, unit api.Frac, mode uint8) (api.Frac, api.Errno) {
	x, u := exact{a}, exact{unit}
	if !x.valid() || !u.valid() || mode < api.RoundDown || mode > api.RoundEven {
		return api.Frac{}, api.ErrArg
	}
	if isZero(u.N) || u.negative() {
		return api.Frac{}, ErrZero
	}
	return Make(times(factor(x, u, mode), u.N), u.D)
}

// factor returns the factor of the unit u to which x is rounded.
func factor(x, u exact, mode uint8) api.Whole {
	n, d := quotient(x, u)
	floor, rest := divide(n, d)
	if isZero(rest) {
		return floor
	}
	next := modes(between{x, floor, whole.Cmp(plus(rest, rest), d)})[mode]
	if next() {
		return plus(floor, whole.FromInt(1))
	}
	return floor
}
