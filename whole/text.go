package whole

import (
	"annuitant/api"
)

// text.go: decimal forms. Their digits are converted in groups.

const (
	groupDigits = 12
	groupUnit   = 1_000_000_000_000 // 10 to the power groupDigits
	maxDigits   = 5 * MaxWide       // more digits need more than MaxWide limbs, since a limb is less than 10^5
)

// Text returns the decimal form of a.
func Text(a api.Whole) (string, api.Errno) {
	if !allValid(a) {
		return "", api.ErrArg
	}
	if len(a.Limbs) == 0 {
		return "0", api.OK
	}
	digits := reversedDigits(a.Limbs)
	text := make([]byte, 0, len(digits)+1)
	if a.Neg {
		text = append(text, '-')
	}
	for i := len(digits) - 1; i >= 0; i-- {
		text = append(text, digits[i])
	}
	return string(text), api.OK
}

// reversedDigits returns the digits of a size, the least significant one first, without leading zeros.
func reversedDigits(size []uint16) []byte {
	var digits []byte
	for len(size) > 0 {
		var group uint64
		size, group = divideShort(size, groupUnit)
		for range groupDigits {
			digits = append(digits, byte('0'+group%10))
			group /= 10
		}
	}
	n := len(digits)
	for n > 0 && digits[n-1] == '0' {
		n--
	}
	return digits[:n]
}

// Parse returns the number with a decimal form.
func Parse(text string) (api.Whole, api.Errno) {
	neg := len(text) > 0 && text[0] == '-'
	digits := text
	if neg {
		digits = text[1:]
	}
	if !areDigits(digits) || digits[0] == '0' && text != "0" {
		return api.Whole{}, ErrText
	}
	if len(digits) > maxDigits {
		return api.Whole{}, api.ErrLong
	}
	size := sizeOf(digits)
	if len(size) > MaxWide {
		return api.Whole{}, api.ErrLong
	}
	return number(neg, size), api.OK
}

// areDigits reports whether a text consists of digits, at least one.
func areDigits(text string) bool {
	for i := range len(text) {
		if text[i] < '0' || text[i] > '9' {
			return false
		}
	}
	return len(text) > 0
}

// sizeOf returns the size that digits make.
func sizeOf(digits string) []uint16 {
	var size []uint16
	for len(digits) > 0 {
		n := (len(digits)-1)%groupDigits + 1 // all groups but the first are full
		group := uint64(0)
		for i := range n {
			group = 10*group + uint64(digits[i]-'0')
		}
		size = combine(size, limbsOf(group), groupUnit, 1)
		digits = digits[n:]
	}
	return size
}
