package frac_test

import (
	"math/big"
	"math/rand"
	"strings"
	"testing"

	"annuitant/api"
	"annuitant/frac"
)

// checkText compares Text and Parse with the library.
func checkText(t *testing.T, a *big.Rat) {
	t.Helper()
	want := a.RatString()
	if s, e := frac.Text(fromRat(a)); s != want || e != api.OK {
		t.Errorf("Text(%s) = %q, error %d", want, s, e)
	}
	b, e := frac.Parse(want)
	expect(t, a, b, e, "Parse", want)
}

// P2.5: texts, in both directions.
func TestTexts(t *testing.T) {
	for _, text := range []string{
		"0", "1", "-1", "7", "-10", "1/2", "-1/2", "2/3", "-27/8", "1/10", "10/3", "100/7", "65536", "1/65536", "-65535/65536",
		"9223372036854775808/3", "1/340282366920938463463374607431768211456",
	} {
		checkText(t, rat(text))
		if s, e := frac.Text(of(text)); s != text || e != api.OK {
			t.Errorf("Text(%s) = %q, error %d", text, s, e)
		}
	}
	for _, a := range edges() {
		checkText(t, a)
	}
	r := rand.New(rand.NewSource(6))
	for range 200 {
		checkText(t, random(r, 12))
	}
	for range 5 {
		checkText(t, random(r, api.MaxLimbs))
	}
}

// P2.5: texts that are not decimal forms, with denominators that are less than 2, or not in lowest terms; also if they are too long.
func TestWrongTexts(t *testing.T) {
	long := strings.Repeat("9", 6000)
	middle := strings.Repeat("9", 1300)
	for _, text := range []string{
		"2/4", "3/1", "1/-2", "0/2", "0/1", "0/0", "1/0", "1/1", "-1/1", "-2/4", "-1/-2", "6/3", "4/2", "10/15", "-0/2", "0/-1", "0/3",
		"", "/", "1/", "/2", "-/2", "1/-", "//", "1//2", "1/2/", "/1/2", "1/2/3", "2/3/1", "1/2/2", "-", "-0", "--1", "00", "007",
		"01/2", "1/02", "1/00", "+1", "+1/2", "1/+2", " 1/2", "1 /2", "1/ 2", "1/2 ", "1/2\n", "1/2\x00", "1.5", "0.5", "1e3", "1/1e3",
		"½", "1⁄2", "1\\2", "1:2", "a/b", "1/b", "a/2", "0x1/2", "1/0x2", "\xff", "1/\xff",
		"0" + long, long + "x", long + "/x", "x/" + long, long + "/", "/" + long, long + "/0", long + "/1", long + "/-2", long + "/-" + long,
		"1/-" + long, "1/0" + long, "0" + long + "/2", long + "/2/3", long + "/02", "-0/" + long, "/-" + long, long + "//" + long,
		middle + "/1", middle + "/0", middle + "/-2", "x/" + middle, "01/" + middle, "1/-" + middle, middle + "/-" + middle,
	} {
		a, e := frac.Parse(text)
		expectError(t, frac.ErrText, a, e, "Parse", text[:min(len(text), 20)], len(text))
	}
}

// P2.5: texts of numbers with more than MaxLimbs limbs, also if they have a common divisor.
func TestLongTexts(t *testing.T) {
	over := power(maxBits).String()
	long := strings.Repeat("8", 6000)
	for i, text := range []string{
		over, "-" + over, over + "/3", "3/" + over, "-3/" + over, over + "/" + over, over + "/2", "2/" + over, "0/" + over, "1/" + over,
		long, "-" + long, long + "/2", "2/" + long, "0/" + long, long + "/" + long, "-" + long + "/" + long, over + "/" + long,
		power(4*maxBits - 1).String(), power(4 * maxBits).String(), "5/" + power(4*maxBits-1).String(), "5/" + power(4*maxBits).String(),
		"1" + strings.Repeat("0", 1<<22) + "/1" + strings.Repeat("0", 1<<22),
	} {
		a, e := frac.Parse(text)
		expectError(t, api.ErrLong, a, e, "long text", i)
	}
	greatest := most().String()
	a, e := frac.Parse(greatest)
	expect(t, integer(most()), a, e, "the greatest numerator")
	a, e = frac.Parse("1/" + greatest)
	expect(t, ratio(big.NewInt(1), most()), a, e, "the greatest denominator")
	a, e = frac.Parse("3/" + greatest)
	expectError(t, frac.ErrText, a, e, "3 and the greatest denominator")
}
