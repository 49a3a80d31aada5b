package whole_test

import (
	"math/big"
	"math/rand"
	"testing"

	"annuitant/api"
	"annuitant/whole"
)

// of returns the number that limbs make.
func of(limbs ...uint16) api.Whole { return api.Whole{Limbs: limbs} }

// minus returns the negative number that limbs make.
func minus(limbs ...uint16) api.Whole { return api.Whole{Neg: true, Limbs: limbs} }

// power returns 2 to the power n.
func power(n int) api.Whole {
	limbs := make([]uint16, n/16+1)
	limbs[n/16] = 1 << (n % 16)
	return of(limbs...)
}

// greatest returns the greatest number with n limbs.
func greatest(n int) api.Whole {
	limbs := make([]uint16, n)
	for i := range limbs {
		limbs[i] = 65535
	}
	return of(limbs...)
}

// parsed returns the number with a decimal form.
func parsed(t *testing.T, text string) api.Whole {
	t.Helper()
	a, e := whole.Parse(text)
	if e != api.OK {
		t.Fatalf("Parse(%q): error %d", text, e)
	}
	return a
}

// toBig returns a as the library's number, which serves as the oracle.
func toBig(a api.Whole) *big.Int {
	n := new(big.Int)
	for i := len(a.Limbs) - 1; i >= 0; i-- {
		n.Lsh(n, 16).Or(n, big.NewInt(int64(a.Limbs[i])))
	}
	if a.Neg {
		n.Neg(n)
	}
	return n
}

// fromBig returns the whole number that a number of the library is.
func fromBig(n *big.Int) api.Whole {
	var a api.Whole
	a.Neg = n.Sign() < 0
	for rest := new(big.Int).Abs(n); rest.Sign() > 0; rest.Rsh(rest, 16) {
		a.Limbs = append(a.Limbs, uint16(rest.Uint64()))
	}
	return a
}

// tooLong reports whether a number has more than MaxWide limbs.
func tooLong(n *big.Int) bool { return n.BitLen() > 16*whole.MaxWide }

// random returns a number of at most limbs limbs, many of which are at the
// edges of their range.
func random(r *rand.Rand, limbs int) api.Whole {
	edges := []uint16{0, 0, 1, 0x7fff, 0x8000, 0xfffe, 0xffff, 0xffff}
	list := make([]uint16, r.Intn(limbs+1))
	plain := r.Intn(2) == 0
	for i := range list {
		list[i] = uint16(r.Uint32())
		if !plain && r.Intn(4) > 0 {
			list[i] = edges[r.Intn(len(edges))]
		}
	}
	for len(list) > 0 && list[len(list)-1] == 0 {
		list = list[:len(list)-1]
	}
	return api.Whole{Neg: len(list) > 0 && r.Intn(2) == 0, Limbs: list}
}

// invalid returns numbers that are not valid.
func invalid() []api.Whole {
	return []api.Whole{
		{Neg: true},
		{Neg: true, Limbs: []uint16{}},
		of(0),
		minus(0),
		of(1, 0),
		minus(0, 0, 0),
		greatest(whole.MaxWide + 1),
		of(make([]uint16, whole.MaxWide+1)...),
		power(16 * whole.MaxWide),
		greatest(1 << 17),
	}
}

// isZero reports whether a is the zero value, except that an empty slice is as good as nil.
func isZero(a api.Whole) bool { return !a.Neg && len(a.Limbs) == 0 }

// binary is an operation on two numbers with one result.
type binary = func(a, b api.Whole) (api.Whole, api.Errno)

// quotient and rest are the two results of DivMod.
func quotient(a, b api.Whole) (api.Whole, api.Errno) {
	q, _, e := whole.DivMod(a, b)
	return q, e
}

func rest(a, b api.Whole) (api.Whole, api.Errno) {
	_, r, e := whole.DivMod(a, b)
	return r, e
}

// operations returns all operations on two numbers.
func operations() map[string]binary {
	return map[string]binary{
		"Add": whole.Add, "Sub": whole.Sub, "Mul": whole.Mul,
		"DivMod quotient": quotient, "DivMod rest": rest, "Gcd": whole.Gcd,
	}
}

// oracles returns the operations of the library, with the results that the chapter asks for.
func oracles() map[string]func(a, b *big.Int) *big.Int {
	return map[string]func(a, b *big.Int) *big.Int{
		"Add": func(a, b *big.Int) *big.Int { return new(big.Int).Add(a, b) },
		"Sub": func(a, b *big.Int) *big.Int { return new(big.Int).Sub(a, b) },
		"Mul": func(a, b *big.Int) *big.Int { return new(big.Int).Mul(a, b) },
		"DivMod quotient": func(a, b *big.Int) *big.Int {
			q, _ := floored(a, b)
			return q
		},
		"DivMod rest": func(a, b *big.Int) *big.Int {
			_, r := floored(a, b)
			return r
		},
		"Gcd": func(a, b *big.Int) *big.Int {
			return new(big.Int).GCD(nil, nil, new(big.Int).Abs(a), new(big.Int).Abs(b))
		},
	}
}

// floored returns the quotient, rounded down, and the remainder.
func floored(a, b *big.Int) (*big.Int, *big.Int) {
	q, r := new(big.Int).QuoRem(a, b, new(big.Int))
	if r.Sign() != 0 && r.Sign() != b.Sign() {
		q.Sub(q, big.NewInt(1))
		r.Add(r, b)
	}
	return q, r
}
