package whole_test

import (
	"math/rand"
	"strings"
	"testing"

	"annuitant/api"
	"annuitant/whole"
)

// P1.4: decimal forms, in both directions.
func TestForms(t *testing.T) {
	for _, c := range []struct {
		a    api.Whole
		text string
	}{
		{api.Whole{}, "0"}, {of(7), "7"}, {minus(7), "-7"}, {of(10), "10"}, {minus(10), "-10"},
		{of(9), "9"}, {of(99), "99"}, {of(65535), "65535"}, {of(0, 1), "65536"}, {of(34464, 1), "100000"},
		{whole.FromInt(999999999999), "999999999999"},
		{whole.FromInt(1000000000000), "1000000000000"},
		{whole.FromInt(-1000000000001), "-1000000000001"},
		{whole.FromInt(100000000000), "100000000000"},
		{whole.FromInt(-1 << 63), "-9223372036854775808"},
		{greatest(8), "340282366920938463463374607431768211455"},
		{minus(0, 0, 0, 0, 0, 0, 0, 0, 1), "-340282366920938463463374607431768211456"},
	} {
		if s, e := whole.Text(c.a); s != c.text || e != api.OK {
			t.Errorf("Text(%v) = %q, error %d", c.a, s, e)
		}
		if a, e := whole.Parse(c.text); !whole.Same(a, c.a) || e != api.OK || !whole.Valid(a) {
			t.Errorf("Parse(%q) = %v, error %d", c.text, a, e)
		}
	}
}

// P1.4: random numbers, and the greatest ones, compared with the library.
func TestFormsOfLongNumbers(t *testing.T) {
	r := rand.New(rand.NewSource(7))
	numbers := []api.Whole{greatest(whole.MaxWide), minus(greatest(whole.MaxWide).Limbs...), power(16*whole.MaxWide - 1)}
	for range 300 {
		numbers = append(numbers, random(r, 40))
	}
	for range 5 {
		numbers = append(numbers, random(r, whole.MaxWide))
	}
	for zeros := range 40 {
		numbers = append(numbers, parsed(t, "-1"+strings.Repeat("0", zeros)))
	}
	for _, a := range numbers {
		want := toBig(a).String()
		s, e := whole.Text(a)
		if s != want || e != api.OK {
			t.Errorf("Text of %s = %s, error %d", want, s, e)
		}
		b, e := whole.Parse(want)
		if !whole.Same(a, b) || e != api.OK {
			t.Errorf("Parse of %s = %v, error %d", want, b, e)
		}
	}
}

// P1.4: texts that are not decimal forms, also if they are too long.
func TestWrongTexts(t *testing.T) {
	long := strings.Repeat("9", 6000)
	for _, text := range []string{
		"", "-", "--1", "-0", "00", "-00", "007", "-007", "0-", "+1", "+0", " 1", "1 ", "1\n", "\x00", "1\x00",
		"1e3", "0x1", "1_000", "1,000", "1.0", "1/2", "a", "\xff", "½", "٣", "-٣", "12a", "1-", "1-2",
		"/", ":", "1/", "1:", "0" + long, "-0" + long, long + "x", long + "-", "x" + long, "-" + long + " ",
	} {
		if a, e := whole.Parse(text); !isZero(a) || e != whole.ErrText {
			t.Errorf("Parse(%.20q) = %v, error %d", text, a, e)
		}
	}
}

// P1.4: numbers with more than MaxWide limbs.
func TestLongTexts(t *testing.T) {
	most := toBig(greatest(whole.MaxWide))
	for i, text := range []string{
		toBig(power(16 * whole.MaxWide)).String(), "-" + toBig(power(16*whole.MaxWide)).String(),
		strings.Repeat("9", len(most.String())), "1" + strings.Repeat("0", len(most.String())),
		strings.Repeat("7", 5*whole.MaxWide), strings.Repeat("7", 5*whole.MaxWide+1),
		"-1" + strings.Repeat("0", 1<<22),
	} {
		if a, e := whole.Parse(text); !isZero(a) || e != api.ErrLong {
			t.Errorf("long text %d: %v, error %d", i, a, e)
		}
	}
}
