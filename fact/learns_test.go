package fact_test

import (
	"math"
	"testing"

	"annuitant/api"
	"annuitant/fact"
)

// P6.3: a day on which facts become known that change nothing, each or all together, is not learned on.
func TestLearnsNothing(t *testing.T) {
	one, two := number("1"), number("2")
	for i, c := range []struct {
		l    []api.Fact
		want []int
	}{
		{nil, nil}, {[]api.Fact{is("a", 0, 10, 0, one)}, []int{0}}, {[]api.Fact{is("a", 0, 10, api.MaxDay-1, one)}, []int{api.MaxDay - 1}},
		{[]api.Fact{gone("a", 0, 10, 5)}, nil}, {[]api.Fact{is("b", 0, 10, 5, one)}, nil},
		{[]api.Fact{is("a", 0, 10, 5, one), is("a", 0, 10, 6, one)}, []int{5}}, {[]api.Fact{is("a", 0, 10, 5, one), is("a", 2, 4, 6, one)}, []int{5}}, {[]api.Fact{is("a", 0, 10, 5, one), is("a", 5, 11, 6, one)}, []int{5, 6}},
		{[]api.Fact{is("a", 0, 10, 5, one), gone("a", 10, 20, 6)}, []int{5}}, {[]api.Fact{is("a", 0, 10, 5, one), gone("a", 9, 20, 6)}, []int{5, 6}},
		{[]api.Fact{is("a", 0, 10, 5, one), gone("a", 0, 10, 6), is("a", 0, 10, 6, one)}, []int{5}}, {[]api.Fact{is("a", 0, 10, 5, one), is("a", 0, 10, 6, one), gone("a", 0, 10, 6)}, []int{5, 6}},
		{[]api.Fact{is("a", 0, 10, 5, one), is("a", 0, 20, 6, two), gone("a", 10, 20, 6), is("a", 0, 10, 6, one)}, []int{5}},
		{[]api.Fact{is("a", 0, 10, 5, one), is("a", 3, 5, 6, two), is("a", 3, 5, 7, one)}, []int{5, 6, 7}},
		{[]api.Fact{is("a", 3, 5, 7, one), is("a", 3, 5, 6, two), is("a", 0, 10, 5, one)}, []int{5, 6, 7}},
		{[]api.Fact{is("a", 0, 10, 5, one), is("a", 3, 5, 6, two), is("b", 3, 5, 7, one), gone("a", 20, 30, 8), is("a", 3, 5, 9, two)}, []int{5, 6}},
		{[]api.Fact{is("a", 0, 5, 5, one), is("a", 5, 10, 5, one), is("a", 0, 10, 6, one)}, []int{5}},
	} {
		expectList(t, c.want, fact.Learns(c.l, "a"), "Learns", i)
	}
}

// P6.3: Diff of a view and itself, and of two views in either order.
func TestDiff(t *testing.T) {
	one, two := number("1"), number("2")
	l := []api.Fact{is("a", 0, 10, 5, one), is("a", 20, 30, 6, two), gone("a", 2, 4, 7), is("a", 4, 22, 8, two), is("b", 0, 100, 6, one)}
	for _, c := range []struct {
		k1, k2 int
		want   []api.Span
	}{
		{0, 4, nil}, {4, 5, []api.Span{{From: 0, To: 10}}}, {5, 5, nil}, {5, 6, []api.Span{{From: 20, To: 30}}}, {6, 7, []api.Span{{From: 2, To: 4}}}, {7, 8, []api.Span{{From: 4, To: 20}}},
		{6, 8, []api.Span{{From: 2, To: 20}}}, {math.MinInt64, math.MaxInt64, []api.Span{{From: 0, To: 2}, {From: 4, To: 30}}}, {8, math.MaxInt64, nil}, {-1, 4, nil},
	} {
		for _, k := range [][2]int{{c.k1, c.k2}, {c.k2, c.k1}} {
			got, e := fact.Diff(l, "a", k[0], k[1])
			if expectList(t, c.want, got, "Diff", k); e != api.OK {
				t.Errorf("Diff%v: error %d", k, e)
			}
		}
	}
}
