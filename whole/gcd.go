package whole

// gcd.go: greatest common divisors, by Euclid's algorithm. Since fractions need
// them after each operation, many of its steps are done at once (Lehmer).

// leadBits is the number of leading bits from which quotients are guessed; a
// few bits less than a word, so that sums with factors do not overflow.
const leadBits = 62

// commonDivisor returns the greatest common divisor of a and b; 0 if both are 0.
func commonDivisor(a, b []uint16) []uint16 {
	if compare(a, b) < 0 {
		a, b = b, a
	}
	for len(b) > wordLimbs {
		a, b = reduce(a, b)
	}
	if len(b) == 0 {
		return copied(a)
	}
	_, rest := divide(a, b)
	return limbsOf(shortDivisor(word(b), word(rest)))
}

func shortDivisor(a, b uint64) uint64 {
	for b > 0 {
		a, b = b, a%b
	}
	return a
}

// reduce does one step or more of Euclid's algorithm; a is at least b, and b
// has more than wordLimbs limbs. Of the results, too, the first is the greater.
func reduce(a, b []uint16) ([]uint16, []uint16) {
	p, q, r, s := steps(a, b)
	if q == 0 {
		_, rest := divide(a, b)
		return b, rest
	}
	return combine(a, b, p, q), combine(a, b, r, s)
}

// steps does steps of Euclid's algorithm as long as the leading bits of a and b
// determine the quotients. The steps lead from a and b to a*p + b*q and
// a*r + b*s; q is 0 if there is no step. With x and y, the leading bits of what
// a and b have become, their exact quotient lies between (x+p)/(y+r) and
// (x+q)/(y+s). The factors are about half as long as the leading bits.
func steps(a, b []uint16) (p, q, r, s int64) {
	low := bitLen(a) - leadBits
	x, y := bitsFrom(a, low), bitsFrom(b, low)
	p, q, r, s = 1, 0, 0, 1
	for y+r > 0 && y+s > 0 {
		k := (x + p) / (y + r)
		if k != (x+q)/(y+s) {
			break
		}
		x, y = y, x-k*y
		p, r = r, p-k*r
		q, s = s, q-k*s
	}
	return p, q, r, s
}

// bitLen returns the number of bits of a size, which is not 0.
func bitLen(a []uint16) int {
	n := limbBits * (len(a) - 1)
	for top := a[len(a)-1]; top > 0; top >>= 1 {
		n++
	}
	return n
}

// bitsFrom returns the bits of a size from the bit number low on, of which
// there are at most leadBits.
func bitsFrom(a []uint16, low int) int64 {
	n := int64(0)
	for i := low / limbBits; i < len(a); i++ {
		if shift := limbBits*i - low; shift < 0 {
			n |= int64(a[i] >> -shift)
		} else {
			n |= int64(a[i]) << shift
		}
	}
	return n
}
