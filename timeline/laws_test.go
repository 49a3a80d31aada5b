package timeline_test

import (
	"math/rand"
	"slices"
	"testing"

	"annuitant/api"
	"annuitant/frac"
	"annuitant/timeline"
)

// join returns the join of two timelines of one kind.
func join(t *testing.T, a, b []api.Step) []api.Step {
	t.Helper()
	l, e := timeline.Join(a, b)
	if e != api.OK || !timeline.Right(l) {
		t.Errorf("Join(%v, %v) = %v, error %d", short(a), short(b), short(l), e)
	}
	return l
}

// P5.5: Join is associative, for all triples of timelines of three days.
func TestJoinIsAssociative(t *testing.T) {
	all := lines(7, 3, some(api.Number))
	for _, a := range all {
		for _, b := range all {
			for _, c := range all {
				checkAssociative(t, a.steps(), b.steps(), c.steps())
			}
		}
	}
	r := rand.New(rand.NewSource(5))
	for range 5 {
		checkAssociative(t, random(r, some(api.Date)).steps(), random(r, some(api.Date)).steps(), random(r, some(api.Date)).steps())
	}
}

func checkAssociative(t *testing.T, a, b, c []api.Step) {
	t.Helper()
	left, right := join(t, join(t, a, b), c), join(t, a, join(t, b, c))
	if !equalSteps(left, right) {
		t.Errorf("Join of %v, %v and %v: %v or %v", short(a), short(b), short(c), short(left), short(right))
	}
}

// P5.5: a timeline is the join of itself with itself, and of what Cut and Without return; Diff of equal timelines is empty, and of others it is not.
func TestLaws(t *testing.T) {
	for _, l := range lines(7, 4, some(api.Number)) {
		steps := l.steps()
		if !equalSteps(join(t, steps, steps), steps) {
			t.Errorf("the join of %v with itself is %v", steps, join(t, steps, steps))
		}
		for from := 6; from < 13; from++ {
			for to := from; to < 13; to++ {
				checkSplit(t, steps, from, to)
			}
		}
		for _, m := range lines(7, 4, some(api.Number)) {
			diff, e := timeline.Diff(steps, m.steps())
			if e != api.OK || (len(diff) == 0) != slices.Equal(l.states, m.states) {
				t.Errorf("Diff(%v, %v) = %v, error %d", steps, m.steps(), diff, e)
			}
		}
	}
	r := rand.New(rand.NewSource(6))
	for range 10 {
		l := random(r, some(api.Number)).steps()
		from := r.Intn(api.MaxDay)
		checkSplit(t, l, from, from+r.Intn(api.MaxDay-from))
		if diff, e := timeline.Diff(l, l); len(diff) > 0 || e != api.OK {
			t.Errorf("Diff of equal timelines: %v, error %d", diff, e)
		}
	}
}

// checkSplit checks what holds for a timeline that is divided by a span.
func checkSplit(t *testing.T, l []api.Step, from, to int) {
	t.Helper()
	in, _ := timeline.Cut(l, from, to)
	out, _ := timeline.Without(l, from, to)
	if !equalSteps(join(t, in, out), l) || !equalSteps(join(t, out, in), l) {
		t.Errorf("%v is not the join of %v and %v", short(l), short(in), short(out))
	}
	before, _ := timeline.Sum(l, 0, from)
	between, _ := timeline.Sum(l, from, to)
	after, _ := timeline.Sum(l, to, api.MaxDay)
	all, e := timeline.Sum(l, 0, api.MaxDay)
	sum, _ := frac.Add(before, between)
	sum, _ = frac.Add(sum, after)
	if e != api.OK || !frac.Same(sum, all) {
		t.Errorf("sums of %v by %d and %d do not add up", short(l), from, to)
	}
}
