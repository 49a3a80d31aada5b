package span_test

import (
	"math/rand"
	"slices"
	"testing"

	"annuitant/api"
	"annuitant/span"
)

// union returns the union of two sets.
func union(a, b []api.Span) []api.Span {
	l, _ := span.Union(a, b)
	return l
}

// meet returns what two sets have in common.
func meet(a, b []api.Span) []api.Span {
	l, _ := span.Meet(a, b)
	return l
}

// minus returns a set without the days of another one.
func minus(a, b []api.Span) []api.Span {
	l, _ := span.Minus(a, b)
	return l
}

// expectSame checks that two sets, which a law says are the same, are sets and are the same.
func expectSame(t *testing.T, law string, a, b []api.Span) {
	t.Helper()
	if !span.Valid(a) || !slices.Equal(a, b) {
		t.Errorf("%s: %v (%d spans) and %v (%d spans)", law, short(a), len(a), short(b), len(b))
	}
}

// P4.4: the laws of Union, Meet and Minus hold for all triples of sets of four days, and for sets of all sorts.
func TestLaws(t *testing.T) {
	for bits := range 1 << 12 {
		checkLaws(t, picked(7, bits&15), picked(7, bits>>4&15), picked(7, bits>>8))
	}
	list := sets()
	r := rand.New(rand.NewSource(2))
	for range 100 {
		checkLaws(t, list[r.Intn(len(list))], list[r.Intn(len(list))], list[r.Intn(len(list))])
	}
}

// checkLaws checks the laws of Union, Meet and Minus, and their numbers of days.
func checkLaws(t *testing.T, a, b, c []api.Span) {
	t.Helper()
	expectSame(t, "Union is commutative", union(a, b), union(b, a))
	expectSame(t, "Meet is commutative", meet(a, b), meet(b, a))
	expectSame(t, "Union is associative", union(union(a, b), c), union(a, union(b, c)))
	expectSame(t, "Meet is associative", meet(meet(a, b), c), meet(a, meet(b, c)))
	expectSame(t, "Union distributes over Meet", union(a, meet(b, c)), meet(union(a, b), union(a, c)))
	expectSame(t, "Meet distributes over Union", meet(a, union(b, c)), union(meet(a, b), meet(a, c)))
	expectSame(t, "Minus leaves what does not meet", minus(a, b), minus(a, meet(a, b)))
	expectSame(t, "Minus and Meet make the whole", union(minus(a, b), meet(a, b)), a)
	if n := span.Days(union(a, b)) + span.Days(meet(a, b)); n != span.Days(a)+span.Days(b) {
		t.Errorf("Union and Meet of %v and %v have %d days", short(a), short(b), n)
	}
	if span.Within(a, b) != slices.Equal(meet(a, b), a) {
		t.Errorf("Within(%v, %v) does not tell whether their Meet is the first", short(a), short(b))
	}
}

// P4.4: Before and Nth are inverse to each other on the days of a set.
func TestInverse(t *testing.T) {
	r := rand.New(rand.NewSource(3))
	for _, l := range sets() {
		total := span.Days(l)
		for range 300 {
			if total == 0 {
				break
			}
			n := r.Intn(total)
			day, ok := span.Nth(l, n)
			if !ok || !span.Has(l, day) || span.Before(l, day) != n {
				t.Errorf("Nth(%v, %d) = %d, %v", short(l), n, day, ok)
			}
		}
	}
}

// withSpare returns a copy of a slice of spans with spare capacity, in which there is something.
func withSpare(l []api.Span) []api.Span {
	all := append(slices.Clone(l), spans(1, 2, 4, 5, 7, 8, 70, 80)...)
	return all[:len(l)]
}

// R3: no function modifies an argument or its spare capacity, and no result shares memory with anything else.
func TestMemory(t *testing.T) {
	calls := map[string]func(a, b []api.Span) []api.Span{
		"Union": union, "Meet": meet, "Minus": minus,
		"Make of one":   func(a, _ []api.Span) []api.Span { l, _ := span.Make(a); return l },
		"Make of two":   func(a, b []api.Span) []api.Span { l, _ := span.Make(append(slices.Clone(b), a...)); return l },
		"Bridge":        func(a, _ []api.Span) []api.Span { l, _ := span.Bridge(a, 3); return l },
		"Bridge by 0":   func(a, _ []api.Span) []api.Span { l, _ := span.Bridge(a, 0); return l },
		"other results": others,
	}
	pairs := [][2][]api.Span{{spans(0, 10, 20, 30), spans(5, 25)}, {spans(0, 10), nil}, {nil, spans(0, 10)}, {spans(3, 4), spans(3, 4)}, {spans(0, 5, 7, 9), spans(30, 40, 50, 60)}}
	for name, call := range calls {
		for _, pair := range pairs {
			a, b := withSpare(pair[0]), withSpare(pair[1])
			wantA, wantB := slices.Clone(a[:cap(a)]), slices.Clone(b[:cap(b)])
			first, second := call(a, b), call(a, b)
			want := slices.Clone(second)
			spoil(first)
			if !slices.Equal(second, want) {
				t.Errorf("%s: two results share memory", name)
			}
			spoil(second)
			if !slices.Equal(a[:cap(a)], wantA) || !slices.Equal(b[:cap(b)], wantB) {
				t.Errorf("%s: an argument was modified, or shares memory with a result", name)
			}
		}
	}
}

// others calls the functions whose results are no sets.
func others(a, b []api.Span) []api.Span {
	span.Valid(a)
	span.Has(a, 25)
	span.Within(a, b)
	span.Days(a)
	span.Before(a, 25)
	span.Nth(a, 10)
	return nil
}

// spoil overwrites a slice of spans, with its spare capacity.
func spoil(l []api.Span) {
	for i := range l[:cap(l)] {
		l[:cap(l)][i] = api.Span{From: -7, To: -7}
	}
}

// P4.1: Make does not modify spans that are not in order.
func TestMakeKeepsOrder(t *testing.T) {
	l := withSpare(spans(20, 30, 9, 9, 5, 25, 0, 1, 0, 0))
	want := slices.Clone(l[:cap(l)])
	got, e := span.Make(l)
	expect(t, spans(0, 1, 5, 30), got, e, "Make")
	spoil(got)
	if !slices.Equal(l[:cap(l)], want) {
		t.Errorf("Make changed its argument to %v", l[:cap(l)])
	}
}
