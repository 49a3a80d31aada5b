package fact_test

import (
	"math/rand"
	"testing"

	"annuitant/api"
	"annuitant/fact"
)

// Limits: as many facts as a record may have.
func TestManyFacts(t *testing.T) {
	r := rand.New(rand.NewSource(6))
	for _, s := range []shape{
		{facts: api.MaxFacts, days: api.MaxDay, knowns: api.MaxDay, keys: []string{"a"}, gone: true},
		{facts: api.MaxFacts, days: api.MaxDay, knowns: 50, keys: []string{"a", "b"}, gone: true, sorted: true},
		{facts: api.MaxFacts, days: api.MaxDay, knowns: api.MaxFacts, keys: []string{"a"}, unequal: true},
	} {
		l := s.random(r)
		for _, k := range []int{0, 25, s.knowns / 2, s.knowns} {
			expect(t, viewOf(l, "a", k), view(t, l, "a", k), api.OK, "View at", k)
		}
		spans, e := fact.Diff(l, "a", s.knowns/2, s.knowns)
		if expectList(t, diffOf(l, "a", s.knowns/2, s.knowns), spans, "Diff"); e != api.OK {
			t.Errorf("Diff: error %d", e)
		}
		for _, day := range []int{0, 1000, 30000, api.MaxDay - 1} {
			want, wantOk := valueAt(l, "a", day, s.knowns)
			v, ok := fact.At(l, "a", day, s.knowns)
			expectValue(t, want, wantOk, v, ok, "At", day)
		}
	}
}

// Limits: as many steps as 2000 facts can make, from short facts over a long one, and then covering all of them.
func TestManySteps(t *testing.T) {
	l := []api.Fact{is("a", 0, api.MaxDay, 0, number("1"))}
	var learns []int
	for i := 1; i < api.MaxFacts-1; i++ {
		l = append(l, is("a", 32*i, 32*i+1, i, number("2")))
	}
	l = append(l, gone("a", 0, api.MaxDay, api.MaxFacts))
	for i := range api.MaxFacts - 1 {
		learns = append(learns, i)
		if i%37 > 0 {
			continue
		}
		if got, want := len(view(t, l, "a", i)), 2*i+1; got != want {
			t.Errorf("%d steps at %d, want %d", got, i, want)
		}
	}
	expect(t, nil, view(t, l, "a", api.MaxFacts), api.OK, "all gone")
	expectList(t, append(learns, api.MaxFacts), fact.Learns(l, "a"), "Learns")
}

// long returns a valid number of limbs as many as there may be, which differs from others only in high limbs.
func long(i int) api.Value {
	odd, power := make([]uint16, api.MaxLimbs), make([]uint16, api.MaxLimbs)
	odd[0], odd[api.MaxLimbs-1] = 1, uint16(1+i)
	power[api.MaxLimbs-1] = 1 << (i % 16)
	return api.Value{Kind: api.Number, F: api.Frac{N: api.Whole{Limbs: odd}, D: api.Whole{Limbs: power}}}
}
