package service_test

import (
	"math/big"
	"math/rand"
	"testing"

	"annuitant/api"
	"annuitant/frac"
	"annuitant/service"
	"annuitant/whole"
)

// expectMonths checks that a result is a number of months, or an error.
func expectMonths(t *testing.T, want int, wantE api.Errno, years api.Frac) {
	t.Helper()
	if got, e := service.Months(years); got != want || e != wantE {
		text, _ := frac.Text(years)
		t.Errorf("Months(%.80s) = %d, error %d; want %d, error %d", text, got, e, want, wantE)
	}
}

// P8.3: Months of small fractions, and of random ones.
func TestMonths(t *testing.T) {
	expectMonths(t, 15, api.OK, of("5/4"))
	expectMonths(t, 0, api.OK, of("1/13"))
	for d := 1; d <= 30; d++ {
		for n := range 100 {
			expectMonths(t, 12*n/d, api.OK, quotient(n, d))
		}
	}
	r := rand.New(rand.NewSource(3))
	for range 2000 {
		d := 1 + r.Intn(1<<20)
		n := r.Intn((1 << 20) / 12 * d)
		want := new(big.Int).Mul(big.NewInt(int64(n)), big.NewInt(12))
		want.Div(want, big.NewInt(int64(d)))
		expectMonths(t, int(want.Int64()), api.OK, quotient(n, d))
	}
}

// P8.3: around the limit, which is meant for the number that is rounded down.
func TestMonthsLimit(t *testing.T) {
	for _, c := range []struct{ n, d, want int }{
		{1 << 20, 12, 1 << 20}, {1<<20 - 1, 12, 1<<20 - 1}, {2<<20 - 1, 24, 1<<20 - 1}, {2<<20 + 1, 24, 1 << 20}, {1<<40 + 1<<20 - 1, 12 << 20, 1 << 20},
	} {
		expectMonths(t, c.want, api.OK, quotient(c.n, c.d))
	}
	for _, years := range []api.Frac{quotient(1<<20+1, 12), quotient(2<<20+3, 24), of("87382"), of("1048576"), of("1000000000"), quotient(1<<62, 1), quotient(1<<62, 3), quotient(1<<62, 12),
		of("768614336404564651"), of("1537228672809129302"), of("18446744073709551616"), of("4611686018427387904/3"), of("6148914691236517205/4")} {
		expectMonths(t, 0, api.ErrLong, years)
	}
}

// P8.3: the error of frac.Mul, for years whose product is too long; and years that are as long as can be.
func TestMonthsTooLong(t *testing.T) {
	long := maximum()
	expectMonths(t, 0, api.ErrLong, api.Frac{N: long, D: whole.FromInt(1)})
	expectMonths(t, 0, api.ErrLong, api.Frac{N: power(api.MaxLimbs - 1), D: whole.FromInt(1)})
	expectMonths(t, 0, api.OK, api.Frac{N: whole.FromInt(1), D: long})
	expectMonths(t, 0, api.OK, api.Frac{N: whole.FromInt(1), D: power(api.MaxLimbs - 1)})
	before, _ := whole.Sub(long, whole.FromInt(2))
	expectMonths(t, 0, api.ErrLong, api.Frac{N: before, D: long}) // nearly 12 months, but the product is too long
	half, _, _ := whole.DivMod(long, whole.FromInt(16))
	expectMonths(t, 11, api.OK, api.Frac{N: half, D: next(half)}) // nearly 12 months
	for _, n := range []int{2, 3, 4, 5, 6} {                      // whole numbers whose lowest limbs look like few months
		limbs := make([]uint16, n+1)
		limbs[n] = 1
		expectMonths(t, 0, api.ErrLong, api.Frac{N: next(api.Whole{Limbs: limbs}), D: whole.FromInt(1)})
	}
}

// P8.3: years that are not valid, or negative.
func TestMonthsArguments(t *testing.T) {
	for _, years := range append(notFracs(), of("-1"), of("-1/12"), of("-1/13"), of("-1/70000"), of("-1000000000"), api.Frac{N: whole.FromInt(-1), D: maximum()}, api.Frac{N: negative(maximum()), D: whole.FromInt(1)}) {
		expectMonths(t, 0, api.ErrArg, years)
	}
}
