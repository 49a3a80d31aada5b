package salary_test

import (
	"math/rand"
	"testing"

	"annuitant/api"
	"annuitant/salary"
)

// lengths returns numbers of months.
func lengths() []int { return []int{1, 2, 3, 12, 36, 599, 1077, api.MaxMonths} }

// check compares Windows, When and Best with the days of a record.
func (y tally) check(t *testing.T, l []api.Step, from, to, n int) {
	t.Helper()
	months, e := salary.Windows(l, from, to, n)
	expectMonths(t, y.windows(from, to, n), months, e, "Windows", short(l), from, to, n)
	when, average := y.best(from, to, n)
	got, e := salary.Best(l, from, to, n)
	expectFrac(t, average, got, e, "Best", short(l), from, to, n)
	wantE := api.OK
	if average == nil {
		wantE = api.ErrNone
	}
	month, e := salary.When(l, from, to, n)
	expectWhen(t, when, wantE, month, e, "When", short(l), from, to, n)
}

// P9.3: Windows, When and Best of long records.
func TestLongRecords(t *testing.T) {
	r := rand.New(rand.NewSource(3))
	for range 5 {
		l := random(r)
		steps, y := l.steps(), l.tally()
		for _, n := range lengths() {
			y.check(t, steps, 0, api.MaxDay, n)
			y.check(t, steps, r.Intn(api.MaxDay), r.Intn(api.MaxDay), n)
			from := r.Intn(api.MaxDay)
			y.check(t, steps, from, min(api.MaxDay, from+r.Intn(3*31*n)), n)
		}
		y.check(t, steps, api.MaxDay, 0, 1)
	}
}

// P9.3: records of months, some of which lack a day or have two amounts, by all bounds around the beginnings of months.
func TestRecordsOfMonths(t *testing.T) {
	r := rand.New(rand.NewSource(4))
	for _, begin := range []int{0, 1, 1200, lastMonth - 8} {
		for range 8 {
			l := line{first(begin), nil}
			for month := begin; month < begin+8; month++ {
				l.addMonth(r, first(month+1)-first(month))
			}
			steps, y := l.steps(), l.tally()
			for _, from := range around(begin, begin+4) {
				for _, to := range around(begin+1, begin+8) {
					y.check(t, steps, from, to, 1+r.Intn(4))
				}
			}
		}
	}
}

// addMonth adds the states of the days of a month.
func (l *line) addMonth(r *rand.Rand, days int) {
	state, change := 1+r.Intn(len(amounts())), r.Intn(days)
	kind := r.Intn(6)
	for day := range days {
		switch {
		case kind == 0 && day == change, kind == 1 && day == 0, kind == 2 && day == days-1:
			l.states = append(l.states, 0)
		case kind == 3 && day >= change:
			l.states = append(l.states, 1)
		default:
			l.states = append(l.states, state)
		}
	}
}

// around returns the days around the beginnings of some months.
func around(from, to int) []int {
	var out []int
	for month := from; month <= to; month++ {
		for _, d := range []int{-1, 0, 1} {
			if day := first(month) + d; 0 <= day && day <= api.MaxDay {
				out = append(out, day)
			}
		}
	}
	return out
}

// P9.3: the examples.
func TestWindowsExamples(t *testing.T) {
	l := example()
	for _, c := range []struct {
		from, to, n int
		windows     []int
		when        int
		best        string
	}{
		{0, 120, 1, []int{0, 1, 2, 3}, 2, "160"}, {0, 120, 2, []int{0, 1, 2}, 2, "8860/61"}, {0, 120, 3, []int{0, 1}, 1, "11660/89"}, {0, 120, 4, []int{0}, 0, "123"},
		{1, 120, 4, nil, 0, ""}, {1, 120, 3, []int{1}, 1, "11660/89"}, {0, 119, 4, nil, 0, ""}, {0, 119, 1, []int{0, 1, 2}, 2, "160"}, {0, 59, 1, []int{0, 1}, 0, "100"}, {0, 59, 2, []int{0}, 0, "100"},
		{0, 200, 1, []int{0, 1, 2, 3, 5}, 5, "900"}, {0, 200, 2, []int{0, 1, 2}, 2, "8860/61"}, {151, 181, 1, []int{5}, 5, "900"}, {152, 181, 1, nil, 0, ""}, {151, 180, 1, nil, 0, ""},
		{0, 0, 1, nil, 0, ""}, {120, 0, 1, nil, 0, ""}, {31, 59, 1, []int{1}, 1, "100"}, {31, 31, 1, nil, 0, ""}, {0, 200, api.MaxMonths, nil, 0, ""}, {0, api.MaxDay, 1, []int{0, 1, 2, 3, 5}, 5, "900"},
	} {
		months, e := salary.Windows(l, c.from, c.to, c.n)
		expectMonths(t, c.windows, months, e, "Windows", c.from, c.to, c.n)
		month, e := salary.When(l, c.from, c.to, c.n)
		average, e2 := salary.Best(l, c.from, c.to, c.n)
		if c.best == "" {
			expectWhen(t, 0, api.ErrNone, month, e, "When", c.from, c.to, c.n)
			expectError(t, api.ErrNone, average, e2, "Best", c.from, c.to, c.n)
			continue
		}
		expectWhen(t, c.when, api.OK, month, e, "When", c.from, c.to, c.n)
		expectFrac(t, rat(of(c.best)), average, e2, "Best", c.from, c.to, c.n)
	}
}

// P9.3: windows at the ends of the calendar: June 2079 is not complete.
func TestCalendarEnds(t *testing.T) {
	l := []api.Step{paid(0, api.MaxDay, of("5/7"))}
	for _, n := range append(lengths(), 1199) {
		for _, c := range []struct{ from, to, begin, end int }{ // the first month of the first window, and the last month of the last one
			{0, api.MaxDay, 0, lastMonth - 1}, {0, api.MaxDay - 1, 0, lastMonth - 1}, {0, first(lastMonth), 0, lastMonth - 1}, {0, first(lastMonth) - 1, 0, lastMonth - 2},
			{1, api.MaxDay, 1, lastMonth - 1}, {31, api.MaxDay, 1, lastMonth - 1}, {32, api.MaxDay, 2, lastMonth - 1}, {first(lastMonth - n), api.MaxDay, lastMonth - n, lastMonth - 1},
			{first(lastMonth-n) + 1, api.MaxDay, lastMonth - n + 1, lastMonth - 1}, {0, first(n), 0, n - 1}, {0, first(n) - 1, 0, n - 2}, {first(lastMonth), api.MaxDay, lastMonth, lastMonth - 1},
			{api.MaxDay - 1, api.MaxDay, lastMonth + 1, lastMonth - 1},
		} {
			var want []int
			for month := c.begin; month+n-1 <= c.end; month++ {
				want = append(want, month)
			}
			months, e := salary.Windows(l, c.from, c.to, n)
			expectMonths(t, want, months, e, "Windows", c.from, c.to, n)
			month, e := salary.When(l, c.from, c.to, n)
			average, e2 := salary.Best(l, c.from, c.to, n)
			if len(want) == 0 {
				expectWhen(t, 0, api.ErrNone, month, e, "When", c, n)
				expectError(t, api.ErrNone, average, e2, "Best", c, n)
				continue
			}
			expectWhen(t, want[0], api.OK, month, e, "When", c, n) // all averages are equal
			expectFrac(t, rat(of("5/7")), average, e2, "Best", c, n)
		}
	}
}

// P9.3: of the windows with the same average the first one counts, also if all are negative, and the average is made of different amounts.
func TestFirstOfEqual(t *testing.T) {
	months := []api.Step{paid(0, 31, of("-5")), paid(31, 59, of("-3")), paid(59, 75, of("-4")), paid(75, 90, of("-2")), paid(90, 120, of("-3")), paid(120, 121, of("-48")), paid(121, 151, of("-3/2"))}
	thirds := []api.Step{paid(0, 59, of("-1/3")), paid(59, 90, of("-1/2")), paid(90, 181, of("-1/3"))}
	for _, c := range []struct {
		l                 []api.Step
		from, to, n, want int
		average           string
	}{
		{months, 0, 151, 1, 1, "-3"}, {months, 32, 151, 1, 3, "-3"}, {months, 91, 151, 1, 4, "-3"}, {months, 0, 90, 1, 1, "-3"}, {months, 59, 90, 1, 2, "-94/31"},
		{months, 0, 31, 1, 0, "-5"}, {months, 0, 151, 2, 3, "-3"}, {months, 31, 151, 3, 2, "-277/92"}, {thirds, 0, 181, 1, 0, "-1/3"}, {thirds, 31, 181, 1, 1, "-1/3"},
		{thirds, 32, 181, 1, 3, "-1/3"}, {thirds, 0, 181, 2, 0, "-1/3"}, {thirds, 1, 181, 2, 3, "-1/3"}, {thirds, 0, 181, 3, 3, "-1/3"},
	} {
		month, e := salary.When(c.l, c.from, c.to, c.n)
		expectWhen(t, c.want, api.OK, month, e, "When", c)
		average, e := salary.Best(c.l, c.from, c.to, c.n)
		expectFrac(t, rat(of(c.average)), average, e, "Best", c)
	}
}
