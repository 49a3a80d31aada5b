package calendar_test

import (
	"math"
	"math/big"
	"math/rand"
	"testing"

	"annuitant/api"
	"annuitant/calendar"
)

// expectLater compares Add with the library.
func expectLater(t *testing.T, day, n int) {
	t.Helper()
	want := failed(calendar.ErrDate)
	if d, is := later(day, n); is {
		want = ok(d)
	}
	expect(t, want, of(calendar.Add(day, n)), "Add", day, n)
}

// P3.3: the chapter's examples, and the ends of months.
func TestAddExamples(t *testing.T) {
	for _, c := range [][3]int{
		{36583, 12, 36948}, {36583, -1, 36552}, {36583, 0, 36583}, {30, 1, 58}, {30, 2, 89}, {58, -1, 27}, {0, 0, 0}, {0, 2153, 65530}, {65530, -2153, 0},
		{30, 1201, 36583}, {65535, -1, 65504}, {65499, 1, 65530}, {65504, 1, 65535}, {65535, 0, 65535}, {65535, -2153, 5},
	} {
		expect(t, ok(c[2]), of(calendar.Add(c[0], c[1])), "Add", c[0], c[1])
	}
	for _, c := range [][2]int{{65535, 1}, {65505, 1}, {0, -1}, {30, -1}, {30, 2153}, {6, 2153}, {65529, 12}, {31, -2}, {0, 2154}} {
		expect(t, failed(calendar.ErrDate), of(calendar.Add(c[0], c[1])), "Add", c[0], c[1])
	}
	if calendar.ErrDate != 30 {
		t.Error("ErrDate is wrong")
	}
}

// P3.3: all moves of dates of all sorts, and all dates moved by some months.
func TestAdd(t *testing.T) {
	for _, day := range dates() {
		for n := -months - 2; n <= months+2; n += 7 + day%5 {
			expectLater(t, day, n)
		}
	}
	for day := range api.MaxDay {
		for _, n := range []int{0, 1, -1, 5, -6, 12, -12, 1200, -1200} {
			expectLater(t, day, n)
		}
	}
}

// farMonths returns numbers of months at the limits of int, and some that have so many days that a word overflows to a date.
func farMonths() []int {
	list := []int{math.MaxInt64, math.MaxInt64 - 1, math.MaxInt64 - 2153, math.MinInt64, math.MinInt64 + 1, math.MinInt64 + 2154, 1 << 32, -1 << 32, 1 << 61, -1 << 62, 1<<62 + 12, 65536, -65536, months, -months}
	for overflows := int64(-15); overflows <= 15; overflows++ {
		days := new(big.Int).Lsh(big.NewInt(overflows), 64)
		days.Add(days, big.NewInt(30000))
		n := days.Mul(days, big.NewInt(400*12)).Div(days, big.NewInt(146097)) // 400 years have that many days
		if overflows != 0 {
			list = append(list, int(n.Int64()))
		}
	}
	return list
}

// P3.3: numbers of months for which a sum or a product could overflow.
func TestAddFar(t *testing.T) {
	for _, n := range farMonths() {
		for _, day := range []int{0, 30, 30000, 36583, 65530, 65535} {
			expect(t, failed(calendar.ErrDate), of(calendar.Add(day, n)), "Add", day, n)
		}
	}
}

// P3.3, P3.4, P3.5: numbers that are no dates; ErrArg comes before ErrDate.
func TestNoDates(t *testing.T) {
	for _, day := range noDates() {
		for _, n := range []int{0, 1, -1, 12, -12, months, 1 << 40, math.MaxInt64, math.MinInt64} {
			expect(t, failed(api.ErrArg), of(calendar.Add(day, n)), "Add", day, n)
		}
		for _, other := range append(noDates(), 0, 1, 36583, 65535) {
			expect(t, failed(api.ErrArg), of(calendar.Between(day, other)), "Between", day, other)
			expect(t, failed(api.ErrArg), of(calendar.Between(other, day)), "Between", other, day)
			expect(t, failed(api.ErrArg), of(calendar.Age(day, other)), "Age", day, other)
			expect(t, failed(api.ErrArg), of(calendar.Age(other, day)), "Age", other, day)
		}
		expect(t, failed(api.ErrArg), of(calendar.Month(day)), "Month", day)
	}
}

// P3.4: the chapter's examples, and days around the ends of months.
func TestBetweenExamples(t *testing.T) {
	for _, c := range [][3]int{
		{30, 58, 1}, {58, 30, -1}, {30, 57, 0}, {57, 30, 0}, {0, 0, 0}, {65535, 65535, 0}, {0, 30, 0}, {0, 31, 1}, {58, 89, 1}, {58, 86, 1}, {58, 85, 0},
		{36583, 36948, 12}, {36583, 36947, 11}, {36948, 36583, -12}, {36947, 36583, -11},
		{0, 65535, 2153}, {65535, 0, -2153}, {5, 65535, 2153}, {6, 65535, 2152}, {65505, 65535, 0}, {65504, 65535, 1}, {30, 65535, 2152}, {0, 65530, 2153}, {0, 65529, 2152},
	} {
		expect(t, ok(c[2]), of(calendar.Between(c[0], c[1])), "Between", c[0], c[1])
	}
}

// expectBetween checks Between and Age for n whole months from a to b, a at most b.
func expectBetween(t *testing.T, a, b, n int) {
	t.Helper()
	expect(t, ok(n), of(calendar.Between(a, b)), "Between", a, b)
	expect(t, ok(-n), of(calendar.Between(b, a)), "Between", b, a)
	expect(t, ok(n/12), of(calendar.Age(a, b)), "Age", a, b)
}

// P3.4: Between, by its definition, from dates of all sorts to the first, a middle and the last one of the days with the same result; and Age.
func TestBetween(t *testing.T) {
	for _, a := range dates() {
		for n := 0; ; n++ {
			from, is := later(a, n)
			if !is {
				break
			}
			to, more := later(a, n+1)
			if !more {
				to = api.MaxDay
			}
			if n > 26 && n%17 > 0 && more {
				continue
			}
			expectBetween(t, a, from, n)
			expectBetween(t, a, (from+to)/2, n)
			expectBetween(t, a, to-1, n)
		}
	}
}

// P3.4: Between, by its definition, from some dates to all later ones.
func TestBetweenAll(t *testing.T) {
	for _, a := range []int{0, 30, 58, 36583, 36948} {
		n := 0
		next, is := later(a, 1)
		for b := a; b < api.MaxDay; b++ {
			if is && next == b {
				n++
				next, is = later(a, n+1)
			}
			expectBetween(t, a, b, n)
		}
	}
}

// P3.4: ages around birthdays, and a birth after the day.
func TestAge(t *testing.T) {
	for _, c := range [][3]int{{36583, 36947, 0}, {36583, 36948, 1}, {36583, 38043, 3}, {36583, 38044, 4}, {0, 0, 0}, {0, 364, 0}, {0, 365, 1}, {0, 65535, 179}, {65535, 65535, 0}} {
		expect(t, ok(c[2]), of(calendar.Age(c[0], c[1])), "Age", c[0], c[1])
	}
	for _, c := range [][2]int{{1, 0}, {65535, 65534}, {65535, 0}, {36948, 36583}, {31, 30}} {
		expect(t, failed(api.ErrArg), of(calendar.Age(c[0], c[1])), "Age", c[0], c[1])
	}
}

// P3.5: the month of every date, and the first day of every month.
func TestMonths(t *testing.T) {
	for day := range api.MaxDay {
		d := civil(day)
		expect(t, ok((d.Year()-1900)*12+int(d.Month())-1), of(calendar.Month(day)), "Month", day)
	}
	for month := range months {
		day, _ := number(date(1900, 1+month, 1))
		expect(t, ok(day), of(calendar.First(month)), "First", month)
	}
	expect(t, ok(1201), of(calendar.Month(36583)), "Month", 36583)
	expect(t, ok(36555), of(calendar.First(1201)), "First", 1201)
	expect(t, ok(2153), of(calendar.Month(65535)), "Month", 65535)
	expect(t, ok(65530), of(calendar.First(2153)), "First", 2153)
	for _, month := range append(farMonths(), -1, -2, -12, months+1, 2160, 1<<32+5, math.MinInt64+12) {
		expect(t, failed(api.ErrArg), of(calendar.First(month)), "First", month)
	}
}

// P3.7: moved dates keep their order; a date is not moved beyond another one by the months between them.
func TestOrder(t *testing.T) {
	r := rand.New(rand.NewSource(1))
	for range 100000 {
		a := r.Intn(api.MaxDay)
		b := min(a+r.Intn(90), api.MaxDay-1)
		if r.Intn(2) == 0 {
			b = a + r.Intn(api.MaxDay-a)
		}
		n := r.Intn(2*months) - months
		x, y := of(calendar.Add(a, n)), of(calendar.Add(b, n))
		if x.e == api.OK && y.e == api.OK && x.n > y.n {
			t.Errorf("%d and %d, %d months later, are %d and %d", a, b, n, x.n, y.n)
		}
		between := of(calendar.Between(a, b))
		moved := of(calendar.Add(a, between.n))
		if between.e != api.OK || moved.e != api.OK || moved.n > b {
			t.Errorf("%d months from %d to %d, but then it is %d, error %d", between.n, a, b, moved.n, moved.e)
		}
	}
}

// P3.7: one month and then another one may be less than two.
func TestAddTwice(t *testing.T) {
	next := of(calendar.Add(30, 1))
	expect(t, ok(86), of(calendar.Add(next.n, 1)), "31 January, a month later twice")
	expect(t, ok(89), of(calendar.Add(30, 2)), "31 January, two months later")
}
