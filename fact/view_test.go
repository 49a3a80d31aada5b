package fact_test

import (
	"math"
	"math/rand"
	"testing"

	"annuitant/api"
	"annuitant/fact"
)

// P6.2: the examples of the chapter.
func TestExamples(t *testing.T) {
	half, one := number("1/2"), number("1")
	l := example()
	for known, want := range map[int][]api.Step{
		9: nil, 10: {step(0, 100, one)}, 49: {step(0, 100, one)}, 50: {step(0, 40, one), step(40, 60, half), step(60, 100, one)}, 79: {step(0, 40, one), step(40, 60, half), step(60, 100, one)},
		80: {step(0, 40, one), step(40, 50, half), step(70, 100, one)}, math.MaxInt64: {step(0, 40, one), step(40, 50, half), step(70, 100, one)}, math.MinInt64: nil, -1: nil,
	} {
		got, e := fact.View(l, "fte", known)
		expect(t, want, got, e, "View at", known)
	}
	v, ok := fact.At(l, "fte", 55, 79)
	expectValue(t, half, true, v, ok, "At 55, 79")
	v, ok = fact.At(l, "fte", 55, 80)
	expectValue(t, api.Value{}, false, v, ok, "At 55, 80")
	spans, e := fact.Diff(l, "fte", 50, 80)
	if expectList(t, []api.Span{{From: 50, To: 70}}, spans, "Diff"); e != api.OK {
		t.Errorf("Diff: error %d", e)
	}
	expectList(t, []int{10, 50, 80}, fact.Learns(l, "fte"), "Learns")
}

// P6.2: of facts with the same Known the one with the greater index decides; otherwise the one with the greater Known does, wherever it stands.
func TestOrder(t *testing.T) {
	half, one, two := number("1/2"), number("1"), number("2")
	for i, c := range []struct {
		l    []api.Fact
		want []api.Step
	}{
		{[]api.Fact{is("a", 0, 10, 5, one), is("a", 5, 15, 5, two)}, []api.Step{step(0, 5, one), step(5, 15, two)}},
		{[]api.Fact{is("a", 5, 15, 5, two), is("a", 0, 10, 5, one)}, []api.Step{step(0, 10, one), step(10, 15, two)}},
		{[]api.Fact{is("a", 5, 15, 6, two), is("a", 0, 10, 5, one)}, []api.Step{step(0, 5, one), step(5, 15, two)}},
		{[]api.Fact{is("a", 0, 10, 5, one), gone("a", 3, 4, 5)}, []api.Step{step(0, 3, one), step(4, 10, one)}},
		{[]api.Fact{gone("a", 3, 4, 5), is("a", 0, 10, 5, one)}, []api.Step{step(0, 10, one)}},
		{[]api.Fact{is("a", 0, 10, 5, one), gone("a", 3, 4, 4)}, []api.Step{step(0, 10, one)}},
		{[]api.Fact{is("a", 0, 10, 7, one), is("a", 0, 10, 6, two), is("a", 0, 10, 7, half), is("a", 0, 10, 6, one)}, []api.Step{step(0, 10, half)}},
		{[]api.Fact{is("a", 0, 10, 5, one), is("a", 10, 20, 6, one), is("a", 20, 30, 4, one)}, []api.Step{step(0, 30, one)}},
		{[]api.Fact{is("a", 0, 10, 5, one), is("a", 5, 7, 6, two), is("a", 4, 8, 7, one)}, []api.Step{step(0, 10, one)}},
		{[]api.Fact{is("a", 0, 10, 5, one), is("a", 10, 20, 5, two), is("a", 10, 15, 6, one)}, []api.Step{step(0, 15, one), step(15, 20, two)}},
		{[]api.Fact{is("a", 0, 10, 5, one), is("a", 10, 20, 5, two), is("a", 5, 10, 6, two)}, []api.Step{step(0, 5, one), step(5, 20, two)}},
		{[]api.Fact{is("a", 0, 10, 5, one), is("a", 20, 30, 5, one), is("a", 10, 20, 6, one)}, []api.Step{step(0, 30, one)}},
		{[]api.Fact{is("a", 0, 10, 5, one), is("a", 20, 30, 5, one), gone("a", 5, 25, 6)}, []api.Step{step(0, 5, one), step(25, 30, one)}},
		{[]api.Fact{gone("a", 0, api.MaxDay, 5)}, nil},
		{[]api.Fact{is("a", 0, api.MaxDay, 5, one), gone("a", 0, 1, 5), gone("a", api.MaxDay-1, api.MaxDay, 5)}, []api.Step{step(1, api.MaxDay-1, one)}},
		{[]api.Fact{is("b", 0, 10, 5, one), is("aa", 0, 10, 5, one), is("A", 0, 10, 5, one), is("a\x00", 0, 10, 5, one)}, nil},
	} {
		got, e := fact.View(c.l, "a", 10)
		expect(t, c.want, got, e, "View", i)
	}
}

// check compares all answers about a key with the oracle.
func check(t *testing.T, l []api.Fact, key string) {
	t.Helper()
	ks := questions(l)
	for _, k := range ks {
		got, e := fact.View(l, key, k)
		expect(t, viewOf(l, key, k), got, e, "View", l, key, k)
		for _, day := range edges(l) {
			for _, day := range []int{day - 1, day} {
				want, wantOk := valueAt(l, key, day, k)
				v, ok := fact.At(l, key, day, k)
				expectValue(t, want, wantOk, v, ok, "At", l, key, day, k)
			}
		}
		k2 := ks[(7*len(l)+3*k&0xff)%len(ks)]
		spans, e := fact.Diff(l, key, k, k2)
		if expectList(t, diffOf(l, key, k, k2), spans, "Diff", l, key, k, k2); e != api.OK {
			t.Errorf("Diff(%v, %q, %d, %d): error %d", l, key, k, k2, e)
		}
	}
	expectList(t, learnsOf(l, key), fact.Learns(l, key), "Learns", l, key)
}

// P6.2, P6.3: all records of three facts of one key, on three days, that are learned on two days.
func TestAllShortRecords(t *testing.T) {
	one, two := number("1"), number("2")
	var all []api.Fact
	for from := range 3 {
		for to := from + 1; to <= 3; to++ {
			for known := range 2 {
				all = append(all, is("a", from, to, known, one), is("a", from, to, known, two), gone("a", from, to, known))
			}
		}
	}
	for _, f := range all {
		for _, g := range all {
			checkShort(t, []api.Fact{f, g})
			for _, h := range all {
				checkShort(t, []api.Fact{f, g, h})
			}
		}
	}
}

// checkShort compares views with the oracle.
func checkShort(t *testing.T, l []api.Fact) {
	t.Helper()
	for k := -1; k < 2; k++ {
		got, e := fact.View(l, "a", k)
		expect(t, viewOf(l, "a", k), got, e, "View", l, k)
	}
	spans, e := fact.Diff(l, "a", 0, 1)
	if expectList(t, diffOf(l, "a", 0, 1), spans, "Diff", l); e != api.OK {
		t.Errorf("Diff(%v): error %d", l, e)
	}
	expectList(t, learnsOf(l, "a"), fact.Learns(l, "a"), "Learns", l)
}

// P6.2, P6.3: random records of several keys, at both ends of the days.
func TestRandomRecords(t *testing.T) {
	r := rand.New(rand.NewSource(1))
	for _, s := range shapes() {
		for range 12 {
			l := s.random(r)
			for _, key := range append(s.keys, "", "other") {
				check(t, l, key)
			}
		}
	}
}

// P6.2: days that are none have no value.
func TestAtNoDays(t *testing.T) {
	l := []api.Fact{is("a", 0, api.MaxDay, 0, number("1"))}
	for _, day := range []int{-1, api.MaxDay, api.MaxDay + 1, math.MinInt64, math.MaxInt64, 1 << 32, 1<<32 + 5, -1 << 32} {
		v, ok := fact.At(l, "a", day, 5)
		expectValue(t, api.Value{}, false, v, ok, "At", day)
	}
	for _, day := range []int{0, 1, 30000, api.MaxDay - 1} {
		v, ok := fact.At(l, "a", day, 0)
		expectValue(t, number("1"), true, v, ok, "At", day)
	}
}

// P6.2: values of all kinds.
func TestKinds(t *testing.T) {
	for _, kind := range kinds() {
		v, w := some(kind)[0], some(kind)[1]
		l := []api.Fact{is("k", 10, 20, 5, v), is("k", 12, 14, 6, w), is("k", 14, 16, 7, v), gone("k", 19, 20, 8)}
		got, e := fact.View(l, "k", 8)
		expect(t, []api.Step{step(10, 12, v), step(12, 14, w), step(14, 19, v)}, got, e, "kind", kind)
		check(t, l, "k")
	}
}
