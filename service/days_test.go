package service_test

import (
	"math"
	"math/rand"
	"testing"

	"annuitant/api"
	"annuitant/service"
)

// bridges returns numbers of days over which periods go on.
func bridges() []int {
	return []int{0, 1, 2, 3, 4, 50, api.MaxDay, math.MaxInt64}
}

// check compares Worked, Breaks and Periods with the days of a line.
func (l line) check(t *testing.T, from, to int, bridges ...int) {
	t.Helper()
	steps, days := l.steps(), l.worked(from, to)
	got, e := service.Worked(steps, from, to)
	expectSet(t, set(days), got, e, "Worked", short(steps), from, to)
	got, e = service.Breaks(steps, from, to)
	expectSet(t, set(gaps(days, api.MaxDay)), got, e, "Breaks", short(steps), from, to)
	for _, bridge := range bridges {
		got, e = service.Periods(steps, from, to, bridge)
		expectSet(t, set(together(days, gaps(days, bridge))), got, e, "Periods", short(steps), from, to, bridge)
	}
}

// P8.4: Worked, Breaks and Periods of all records of five days, by all bounds around them.
func TestShortDays(t *testing.T) {
	for _, first := range []int{0, api.MaxDay - 5} {
		for _, l := range lines(first, 5) {
			for _, from := range bounds(first, 5) {
				for _, to := range bounds(first, 5) {
					l.check(t, from, to, bridges()...)
				}
			}
		}
	}
}

// P8.4: Worked, Breaks and Periods of long records.
func TestLongDays(t *testing.T) {
	r := rand.New(rand.NewSource(4))
	for range 6 {
		l := random(r)
		l.check(t, 0, api.MaxDay, bridges()...)
		l.check(t, r.Intn(api.MaxDay), r.Intn(api.MaxDay), 3, 50)
		l.check(t, r.Intn(1000), api.MaxDay-r.Intn(1000), 10, 100, 1000)
	}
}

// P8.4: the examples.
func TestDaysExamples(t *testing.T) {
	spans := func(bounds ...int) []api.Span {
		var out []api.Span
		for i := 0; i < len(bounds); i += 2 {
			out = append(out, api.Span{From: bounds[i], To: bounds[i+1]})
		}
		return out
	}
	for _, c := range []struct {
		from, to       int
		worked, breaks []api.Span
	}{
		{0, 300, spans(0, 150, 200, 300), spans(150, 200)}, {150, 220, spans(200, 220), nil}, {149, 201, spans(149, 150, 200, 201), spans(150, 200)},
		{0, api.MaxDay, spans(0, 150, 200, 300), spans(150, 200)}, {90, 110, spans(90, 110), nil}, {100, 200, spans(100, 150), nil}, {155, 190, nil, nil}, {300, 0, nil, nil}, {50, 50, nil, nil},
	} {
		got, e := service.Worked(example(), c.from, c.to)
		expectSet(t, c.worked, got, e, "Worked", c.from, c.to)
		got, e = service.Breaks(example(), c.from, c.to)
		expectSet(t, c.breaks, got, e, "Breaks", c.from, c.to)
	}
	got, e := service.Periods(example(), 0, 300, 50)
	expectSet(t, spans(0, 300), got, e, "Periods with bridge 50")
	got, e = service.Periods(example(), 0, 300, 49)
	expectSet(t, spans(0, 150, 200, 300), got, e, "Periods with bridge 49")
	for _, bridge := range bridges() {
		got, e = service.Periods(example(), 120, 110, bridge)
		expectSet(t, nil, got, e, "Periods of no days", bridge)
	}
}

// P8.4: Periods with a negative number of days.
func TestNegativeBridge(t *testing.T) {
	for _, bridge := range []int{-1, -2, -50, -1 << 32, math.MinInt64} {
		for _, l := range [][]api.Step{nil, example()} {
			for _, c := range [][2]int{{0, 300}, {5, 5}, {9, 3}, {-1, 3}} {
				got, e := service.Periods(l, c[0], c[1], bridge)
				expectNoSet(t, got, e, "Periods", l, c, bridge)
			}
		}
	}
}

// P8.4: fractions that are as small as can be are worked, also if a sum is too long.
func TestSmallFractions(t *testing.T) {
	got, e := service.Worked(longs(), 0, 20)
	expectSet(t, []api.Span{{From: 0, To: 2}, {From: 10, To: 20}}, got, e, "Worked")
	got, e = service.Breaks(longs(), 0, 20)
	expectSet(t, []api.Span{{From: 2, To: 10}}, got, e, "Breaks")
	got, e = service.Periods(longs(), 1, 20, 8)
	expectSet(t, []api.Span{{From: 1, To: 20}}, got, e, "Periods")
}

// P8.4: a record with as many steps as there are days.
func TestManySteps(t *testing.T) {
	for _, other := range []int{0, 1, 2} { // none, 0, 1/2
		l := line{0, make([]int, api.MaxDay)}
		for i := range l.states {
			l.states[i] = 3
			if i%2 == 1 {
				l.states[i] = other
			}
		}
		l.check(t, 0, api.MaxDay, 0, 1)
		l.check(t, 1, api.MaxDay-1)
	}
}
