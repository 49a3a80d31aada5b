package whole

// size.go: sizes. A size is the absolute value of a number: its limbs, the
// least significant one first, without leading zeros.

const (
	limbBits  = 16 // bits of a limb
	wordLimbs = 4  // limbs of an int
)

// down yields limbs with their indices, from the most significant one on.
func down(limbs []uint16) func(yield func(int, uint16) bool) {
	return func(yield func(int, uint16) bool) {
		for i := len(limbs) - 1; i >= 0; i-- {
			if !yield(i, limbs[i]) {
				return
			}
		}
	}
}

// trim returns limbs without leading zeros.
func trim(limbs []uint16) []uint16 {
	for i, limb := range down(limbs) {
		if limb != 0 {
			return limbs[:i+1]
		}
	}
	return nil
}

// limbsOf returns the size of n.
func limbsOf(n uint64) []uint16 {
	var limbs [wordLimbs]uint16
	for i := range limbs {
		limbs[i] = uint16(n >> (limbBits * i))
	}
	return trim(limbs[:])
}

// word returns the number that up to wordLimbs limbs make.
func word(limbs []uint16) uint64 {
	n := uint64(0)
	for _, limb := range down(limbs) {
		n = n<<limbBits | uint64(limb)
	}
	return n
}

// copied returns a copy of limbs.
func copied(limbs []uint16) []uint16 {
	return append([]uint16(nil), limbs...)
}

// compare returns -1, 0 or 1 if a is less than, equal to, or greater than b.
func compare(a, b []uint16) int {
	switch {
	case len(a) < len(b):
		return -1
	case len(a) > len(b):
		return 1
	}
	for i, limb := range down(a) {
		switch {
		case limb < b[i]:
			return -1
		case limb > b[i]:
			return 1
		}
	}
	return 0
}

// collect returns two functions. The first one takes the digits of a size, the
// least significant one first; a digit that is negative, or too large for a
// limb, is carried to the next ones. The second one returns the size, which
// must not be negative.
func collect(room int) (put func(digit int64), end func() []uint16) {
	limbs := make([]uint16, 0, room)
	carry := int64(0)
	put = func(digit int64) {
		carry += digit
		limbs = append(limbs, uint16(carry))
		carry >>= limbBits
	}
	end = func() []uint16 {
		for carry > 0 {
			put(0)
		}
		return trim(limbs)
	}
	return put, end
}

// combine returns a*p + b*q, which must not be negative; p and q are less than
// 2^46, so that no digit overflows.
func combine(a, b []uint16, p, q int64) []uint16 {
	n := max(len(a), len(b))
	put, end := collect(n + wordLimbs)
	for i := range n {
		digit := int64(0)
		if i < len(a) {
			digit += int64(a[i]) * p
		}
		if i < len(b) {
			digit += int64(b[i]) * q
		}
		put(digit)
	}
	return end()
}

// multiply returns a * b. A digit is the sum of at most MaxWide products of
// limbs, and does not overflow.
func multiply(a, b []uint16) []uint16 {
	put, end := collect(len(a) + len(b))
	for k := range len(a) + len(b) - 1 {
		digit := int64(0)
		for i := max(0, k+1-len(b)); i < min(k+1, len(a)); i++ {
			digit += int64(a[i]) * int64(b[k-i])
		}
		put(digit)
	}
	return end()
}
