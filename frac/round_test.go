package frac_test

import (
	"math/big"
	"math/rand"
	"testing"

	"annuitant/api"
	"annuitant/frac"
)

// rounded returns a, rounded to a multiple of unit, as the chapter defines it.
func rounded(a, unit *big.Rat, mode uint8) *big.Rat {
	quotient := new(big.Rat).Quo(a, unit)
	k := new(big.Int).Div(quotient.Num(), quotient.Denom())
	next := new(big.Int).Add(k, big.NewInt(1))
	low, high := new(big.Rat).Mul(integer(k), unit), new(big.Rat).Mul(integer(next), unit)
	if low.Cmp(a) == 0 {
		return a
	}
	nearer := new(big.Rat).Sub(a, low).Cmp(new(big.Rat).Sub(high, a))
	up := false
	switch mode {
	case api.RoundDown:
		up = a.Sign() < 0
	case api.RoundUp:
		up = a.Sign() >= 0
	case api.RoundCeil:
		up = true
	case api.RoundHalf:
		up = nearer > 0 || nearer == 0 && new(big.Rat).Abs(high).Cmp(new(big.Rat).Abs(low)) > 0
	case api.RoundEven:
		up = nearer > 0 || nearer == 0 && next.Bit(0) == 0
	}
	if up {
		return high
	}
	return low
}

// checkRound compares all modes with the definition.
func checkRound(t *testing.T, a, unit *big.Rat) {
	t.Helper()
	for mode := api.RoundDown; mode <= api.RoundEven; mode++ {
		got, e := frac.Round(fromRat(a), fromRat(unit), mode)
		if unit.Sign() <= 0 {
			expectError(t, frac.ErrZero, got, e, "Round", a, unit, mode)
		} else {
			expect(t, rounded(a, unit, mode), got, e, "Round", a, unit, mode)
		}
	}
}

// P2.4: the chapter's examples, and others.
func TestRoundExamples(t *testing.T) {
	for _, c := range []struct {
		a, unit string
		want    [6]string
	}{
		{"7/2", "1", [6]string{"3", "4", "3", "4", "4", "4"}},
		{"-5/2", "1", [6]string{"-2", "-3", "-3", "-2", "-3", "-2"}},
		{"5/2", "1", [6]string{"2", "3", "2", "3", "3", "2"}},
		{"-7/2", "1", [6]string{"-3", "-4", "-4", "-3", "-4", "-4"}},
		{"1/2", "1", [6]string{"0", "1", "0", "1", "1", "0"}},
		{"-1/2", "1", [6]string{"0", "-1", "-1", "0", "-1", "0"}},
		{"1", "3/10", [6]string{"9/10", "6/5", "9/10", "6/5", "9/10", "9/10"}},
		{"-1", "3/10", [6]string{"-9/10", "-6/5", "-6/5", "-9/10", "-9/10", "-9/10"}},
		{"9/10", "3/10", [6]string{"9/10", "9/10", "9/10", "9/10", "9/10", "9/10"}},
		{"0", "5", [6]string{"0", "0", "0", "0", "0", "0"}},
		{"1/1000", "5", [6]string{"0", "5", "0", "5", "0", "0"}},
		{"-4999/1000", "5", [6]string{"0", "-5", "-5", "0", "-5", "-5"}},
		{"15/4", "5/2", [6]string{"5/2", "5", "5/2", "5", "5", "5"}},
		{"25/4", "5/2", [6]string{"5", "15/2", "5", "15/2", "15/2", "5"}},
	} {
		for i, want := range c.want {
			got, e := frac.Round(of(c.a), of(c.unit), uint8(i+1))
			expect(t, rat(want), got, e, "Round", c.a, c.unit, i+1)
		}
	}
}

// P2.4: small fractions and units, exhaustively; units that are not positive among them.
func TestRoundSmall(t *testing.T) {
	for n := int64(-25); n <= 25; n++ {
		for d := int64(1); d <= 6; d++ {
			for u := int64(-2); u <= 5; u++ {
				for v := int64(1); v <= 4; v++ {
					checkRound(t, big.NewRat(n, d), big.NewRat(u, v))
				}
			}
		}
	}
}

// P2.4: random fractions, and their neighbours near the middle of two multiples.
func TestRoundRandom(t *testing.T) {
	r := rand.New(rand.NewSource(5))
	for _, limbs := range []int{1, 3, 8, 30} {
		for range 100 {
			a, unit := random(r, limbs), new(big.Rat).Abs(random(r, limbs))
			checkRound(t, a, unit)
			middle := new(big.Rat).Mul(new(big.Rat).Add(integer(randomInt(r, 2)), rat("1/2")), unit)
			tiny := ratio(big.NewInt(1), new(big.Int).Add(power(16*limbs), big.NewInt(1)))
			checkRound(t, middle, unit)
			checkRound(t, new(big.Rat).Add(middle, tiny), unit)
			checkRound(t, new(big.Rat).Sub(middle, tiny), unit)
		}
	}
}

// P2.4: results around the limit.
func TestRoundLimits(t *testing.T) {
	for _, a := range edges() {
		for _, unit := range edges() {
			checkRound(t, a, unit)
		}
	}
	greatest, least := fromRat(integer(most())), fromRat(integer(new(big.Int).Neg(most())))
	for _, c := range []struct {
		a    api.Frac
		mode uint8
	}{{greatest, api.RoundUp}, {greatest, api.RoundCeil}, {greatest, api.RoundHalf}, {least, api.RoundUp}, {least, api.RoundFloor}} {
		got, e := frac.Round(c.a, of("2"), c.mode)
		expectError(t, api.ErrLong, got, e, "Round", show(c.a), 2, c.mode)
	}
}

// P2.4, P2.6: modes and fractions that are not valid; ErrArg comes before ErrZero and ErrLong.
func TestRoundArguments(t *testing.T) {
	for mode := range 256 {
		for _, unit := range []string{"1", "0", "-1", "-1/2"} {
			got, e := frac.Round(of("5/2"), of(unit), uint8(mode))
			switch {
			case mode < 1 || mode > 6:
				expectError(t, api.ErrArg, got, e, "Round", unit, mode)
			case unit != "1":
				expectError(t, frac.ErrZero, got, e, "Round", unit, mode)
			default:
				expect(t, rounded(rat("5/2"), rat(unit), uint8(mode)), got, e, "Round", mode)
			}
		}
	}
	for i, a := range invalid() {
		for mode := range uint8(9) {
			for _, b := range []api.Frac{of("1"), of("0"), of("-1"), of("1/3"), a} {
				got, e := frac.Round(a, b, mode)
				expectError(t, api.ErrArg, got, e, "Round of the invalid fraction", i)
				got, e = frac.Round(b, a, mode)
				expectError(t, api.ErrArg, got, e, "Round to the invalid unit", i)
			}
		}
	}
}
