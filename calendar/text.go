package calendar

import (
	"annuitant/api"
)

// text.go: dates as texts.

const textSize = 10 // bytes of the text of a date

// written is the text of a date: the year, the month and the day of the month.
type written [textSize]byte

// with returns a text with a number before the byte end, in digits.
func (w written) with(number, digits, end int) written {
	for i := end - 1; i >= end-digits; i-- {
		w[i] = '0' + byte(number%10)
		number /= 10
	}
	return w
}

// Text returns a date as text; empty if there is no such date.
func Text(day int) string {
	year, month, d, e := YMD(day)
	if e != api.OK {
		return ""
	}
	w := written{4: '-', 7: '-'}.with(year, 4, 4).with(month, 2, 7).with(d, 2, textSize)
	return string(w[:])
}

// Parse returns the date with a text.
func Parse(s string) (int, api.Errno) {
	if len(s) != textSize {
		return 0, api.ErrArg
	}
	year, month, d := 0, 0, 0
	read(s, &year, &month, &d)
	day, e := Day(year, month, d)
	if e != api.OK || Text(day) != s { // s may have its digits at other places
		return 0, api.ErrArg
	}
	return day, api.OK
}

// read reads numbers from a text. The digits of each one end at a byte that is
// no digit, which is passed over.
func read(s string, numbers ...*int) {
	for _, number := range numbers {
		n := 0
		for n < len(s) && '0' <= s[n] && s[n] <= '9' {
			*number = *number*10 + int(s[n]-'0')
			n++
		}
		s = s[min(n+1, len(s)):]
	}
}
