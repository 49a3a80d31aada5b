package frac

import (
	"strings"

	"annuitant/api"
	"annuitant/whole"
)

// text.go: fractions as texts.

const slash = "/"

// Text returns the text of a.
func Text(a api.Frac) (string, api.Errno) {
	x := exact{a}
	if !x.valid() {
		return "", api.ErrArg
	}
	text, _ := whole.Text(x.N)
	if isOne(x.D) {
		return text, api.OK
	}
	denominator, _ := whole.Text(x.D)
	return text + slash + denominator, api.OK
}

// Parse returns the fraction with a text.
func Parse(text string) (api.Frac, api.Errno) {
	above, below, two := strings.Cut(text, slash)
	n, nError := whole.Parse(above)
	d, dError := whole.FromInt(1), api.OK
	if two {
		d, dError = parseDenominator(below)
	}
	if nError == whole.ErrText || dError == whole.ErrText {
		return api.Frac{}, ErrText
	}
	if nError != api.OK || dError != api.OK || tooLong(n) || tooLong(d) {
		return api.Frac{}, api.ErrLong
	}
	a := api.Frac{N: n, D: d}
	if !Valid(a) {
		return api.Frac{}, ErrText // not in lowest terms
	}
	return a, api.OK
}

// parseDenominator returns the number with a decimal form, which is at least 2,
// with the errors of package whole.
func parseDenominator(text string) (api.Whole, api.Errno) {
	if strings.HasPrefix(text, "-") {
		return api.Whole{}, whole.ErrText
	}
	d, e := whole.Parse(text)
	if e == api.OK && (isZero(d) || isOne(d)) {
		return api.Whole{}, whole.ErrText
	}
	return d, e
}
