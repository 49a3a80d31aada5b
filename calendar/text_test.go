package calendar_test

import (
	"strings"
	"testing"

	"annuitant/api"
	"annuitant/calendar"
)

// P3.6, P3.7: the text of every date, in both directions; texts are ordered as dates.
func TestTexts(t *testing.T) {
	before := ""
	for day := range api.MaxDay {
		want := civil(day).Format("2006-01-02")
		got := calendar.Text(day)
		if got != want {
			t.Errorf("Text(%d) = %q, want %q", day, got, want)
		}
		if got <= before {
			t.Errorf("%q comes after %q", got, before)
		}
		before = got
		expect(t, ok(day), of(calendar.Parse(want)), "Parse", want)
	}
	for day, want := range map[int]string{0: "1900-01-01", 36583: "2000-02-29", 65535: "2079-06-06"} {
		if got := calendar.Text(day); got != want {
			t.Errorf("Text(%d) = %q, want %q", day, got, want)
		}
	}
}

// P3.6: numbers that are no dates have no text.
func TestNoText(t *testing.T) {
	for _, day := range noDates() {
		if got := calendar.Text(day); got != "" {
			t.Errorf("Text(%d) = %q", day, got)
		}
	}
}

// P3.6: texts of days of every month from 1890 to 2090, whether there are such dates or not.
func TestParseDays(t *testing.T) {
	digits := func(n, width int) string {
		s := ""
		for range width {
			s = string(rune('0'+n%10)) + s
			n /= 10
		}
		return s
	}
	for year := 1890; year <= 2090; year++ {
		for month := 0; month <= 13; month++ {
			for d := 0; d <= 33; d++ {
				s := digits(year, 4) + "-" + digits(month, 2) + "-" + digits(d, 2)
				want := failed(api.ErrArg)
				civil := date(year, month, d)
				if day, is := number(civil); is && civil.Format("2006-01-02") == s {
					want = ok(day)
				}
				expect(t, want, of(calendar.Parse(s)), "Parse", s)
			}
		}
	}
}

// P3.6: texts that are not written as dates.
func TestWrongTexts(t *testing.T) {
	for _, s := range []string{
		"", "-", "--", "2000", "2000-02", "2000-02-", "2000-02-2", "2000-02-291", "2000-02-29 ", " 2000-02-29", "2000-02-29\n", "2000-02-29\x00",
		"2000-2-29", "2000-2-029", "2000-002-9", "02000-2-29", "2000-02-9", "2000-02-9 ", "200-002-29", "20000-02-2", "02000-02-2", "000002-2-9", "2-00002-29",
		"2000/02/29", "2000-02.29", "2000.02-29", "2000 02 29", "20000229", "2000022900", "2000-02029", "2000002-29", "2000\x0002\x0029", "2000:02:29",
		"29-02-2000", "02-29-2000", "-2000-02-2", "+2000-2-29", "2000-+2-29", "2000--2-29", "2000- 2-29", "2000-02--9", "2000-02-+9", "2000-02- 9",
		"2000-02-2x", "2000-0x-29", "x000-02-29", "200o-02-29", "2000-O2-29", "2000-02-2/", "2000-02-1:", "2000-0/-29", "1:00-02-01", "200/-02-29", "199:-02-01",
		"2001-02-29", "1900-02-29", "2100-02-29", "2000-02-30", "2000-04-31", "2000-00-01", "2000-13-01", "2000-01-00", "2000-01-32", "0000-00-00",
		"1899-12-31", "2079-06-07", "2079-07-01", "2079-12-31", "2080-01-01", "9999-12-31", "0001-01-01", "1800-01-01",
		"２000-02-29", "2000‐02-29", "2000–02–29", "\xff000-02-29", "2000-02-2\xff", "2000-02-2\xb2", "\xb2000-02-29", "----------", "          ", "0000000000", "9999999999",
		strings.Repeat("0", 1<<20), "2000-02-29" + strings.Repeat("0", 1<<20), strings.Repeat("0", 1<<20) + "2000-02-29", strings.Repeat("2000-02-29", 2),
	} {
		expect(t, failed(api.ErrArg), of(calendar.Parse(s)), "Parse", s[:min(len(s), 20)], len(s))
	}
}

// P3.6: a text in which one byte has been replaced by any other one is the text of a date only if it is a text that Text returns.
func TestReplacedBytes(t *testing.T) {
	texts := map[string]int{}
	for day := range api.MaxDay {
		texts[calendar.Text(day)] = day
	}
	for _, s := range []string{"2000-02-29", "1900-01-01", "2079-06-06", "1999-12-31", "2010-10-10"} {
		for i := range len(s) {
			for b := range 256 {
				replaced := s[:i] + string([]byte{byte(b)}) + s[i+1:]
				want := failed(api.ErrArg)
				if day, is := texts[replaced]; is {
					want = ok(day)
				}
				expect(t, want, of(calendar.Parse(replaced)), "Parse", replaced)
			}
		}
	}
}
