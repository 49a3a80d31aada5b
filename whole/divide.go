package whole

// divide.go: division of sizes, limb by limb.

// shortLimbs is the number of limbs of a divisor for which a word is enough.
const shortLimbs = 3

// divide returns the quotient and the remainder of a and b, b not 0.
func divide(a, b []uint16) (quotient, rest []uint16) {
	if compare(a, b) < 0 {
		return nil, copied(a)
	}
	if len(b) <= shortLimbs {
		quotient, n := divideShort(a, word(b))
		return quotient, limbsOf(n)
	}
	factor := normalizer(b)
	scaled := combine(b, nil, factor, 0)
	rest = make([]uint16, len(a)+1)
	copy(rest, combine(a, nil, factor, 0))
	quotient = make([]uint16, len(a)-len(b)+1)
	for i := range down(quotient) {
		quotient[i] = takeOut(rest[i:i+len(b)+1], scaled)
	}
	rest, _ = divideShort(rest, uint64(factor))
	return trim(quotient), rest
}

// divideShort divides by a number of at most shortLimbs limbs, not 0.
func divideShort(a []uint16, b uint64) (quotient []uint16, rest uint64) {
	quotient = make([]uint16, len(a))
	for i, limb := range down(a) {
		rest = rest<<limbBits | uint64(limb)
		quotient[i] = uint16(rest / b)
		rest %= b
	}
	return trim(quotient), rest
}

// normalizer returns the power of 2 by which b is multiplied to set the first
// bit of its first limb, so that few guesses of a quotient are wrong.
func normalizer(b []uint16) int64 {
	factor := int64(1)
	for top := b[len(b)-1]; top < 1<<(limbBits-1); top <<= 1 {
		factor <<= 1
	}
	return factor
}

// takeOut subtracts b from part, which has one limb more, as often as it can,
// and returns how often that was. Part is less than b * 65536. The guess by
// the leading limbs is never too small.
func takeOut(part, b []uint16) uint16 {
	n := len(b)
	guess := min(word(part[n-2:])/word(b[n-2:]), 1<<limbBits-1)
	carry := addTimes(part, b, -int64(guess))
	for carry < 0 {
		guess--
		carry += addTimes(part, b, 1)
	}
	return uint16(guess)
}

// addTimes adds factor * b to part, and returns what is carried beyond it.
func addTimes(part, b []uint16, factor int64) int64 {
	carry := int64(0)
	for i := range part {
		carry += int64(part[i])
		if i < len(b) {
			carry += int64(b[i]) * factor
		}
		part[i] = uint16(carry)
		carry >>= limbBits
	}
	return carry
}
