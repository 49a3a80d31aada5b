package fact_test

import (
	"math/rand"
	"slices"
	"testing"

	"annuitant/api"
	"annuitant/fact"
	"annuitant/timeline"
)

// view returns a view.
func view(t *testing.T, l []api.Fact, key string, known int) []api.Step {
	t.Helper()
	steps, e := fact.View(l, key, known)
	if e != api.OK || !timeline.Right(steps) {
		t.Errorf("View(%v, %q, %d) = %v, error %d", l, key, known, steps, e)
	}
	return steps
}

// P6.4: a fact changes no view before its Known, and later none outside of its span; nor any view of another key.
func TestChangesOnlyItsSpan(t *testing.T) {
	r := rand.New(rand.NewSource(2))
	for _, s := range shapes() {
		for range 10 {
			l := s.random(r)
			if len(l) == 0 {
				continue
			}
			i := r.Intn(len(l))
			f, less := l[i], slices.Delete(slices.Clone(l), i, i+1)
			for _, key := range s.keys {
				for _, k := range questions(l) {
					a, b := view(t, l, key, k), view(t, less, key, k)
					if k >= f.Known && key == f.Key {
						a, _ = timeline.Without(a, f.From, f.To)
						b, _ = timeline.Without(b, f.From, f.To)
					}
					expect(t, b, a, api.OK, "without", f, "view of", key, k)
				}
			}
		}
	}
}

// P6.4: the fact that comes last in the order decides its whole span, also if it is gone.
func TestLastDecides(t *testing.T) {
	r := rand.New(rand.NewSource(3))
	for _, s := range shapes() {
		for range 10 {
			l := s.random(r)
			f := s.random(r)
			if len(f) == 0 {
				continue
			}
			f[0].Known = slices.Max(append(knowns(l), 0)) // the last one, for its index
			if k := fact.Kind(l, f[0].Key); k != 0 && !f[0].Gone {
				f[0].V = some(k)[0]
			}
			got, _ := timeline.Cut(view(t, append(l, f[0]), f[0].Key, f[0].Known), f[0].From, f[0].To)
			want := []api.Step{step(f[0].From, f[0].To, f[0].V)}
			if f[0].Gone {
				want = nil
			}
			expect(t, want, got, api.OK, "last", f[0], "of", l)
		}
	}
}

// P6.4: if no two facts have the same Known, the order of the slice does not matter.
func TestOrderOfSlice(t *testing.T) {
	r := rand.New(rand.NewSource(4))
	for _, s := range shapes() {
		s.unequal, s.knowns = true, 20
		if s.firstKnown > 0 {
			s.firstKnown = api.MaxDay - 20
		}
		for range 10 {
			l := s.random(r)
			mixed := slices.Clone(l)
			r.Shuffle(len(mixed), func(i, j int) { mixed[i], mixed[j] = mixed[j], mixed[i] })
			for _, key := range s.keys {
				for _, k := range questions(l) {
					expect(t, view(t, l, key, k), view(t, mixed, key, k), api.OK, "mixed", l, key, k)
				}
				expectList(t, fact.Learns(l, key), fact.Learns(mixed, key), "Learns", l, key)
			}
		}
	}
}

// P6.2, P6.3: At is what timeline.At finds in the view, and Diff is empty exactly for equal views.
func TestAgrees(t *testing.T) {
	r := rand.New(rand.NewSource(5))
	s := shape{facts: 60, days: 40, knowns: 30, firstDay: 100, firstKnown: 100, keys: []string{"a", "b"}, gone: true}
	for range 20 {
		l := s.random(r)
		learns := fact.Learns(l, "a")
		for k := 99; k < 131; k++ {
			now := view(t, l, "a", k)
			for day := 99; day < 141; day++ {
				want, wantOk := timeline.At(now, day)
				v, ok := fact.At(l, "a", day, k)
				expectValue(t, want, wantOk, v, ok, "At", day, k)
			}
			spans, e := fact.Diff(l, "a", k-1, k)
			if e != api.OK || (len(spans) > 0) != slices.Contains(learns, k) {
				t.Errorf("Diff at %d = %v, error %d; Learns = %v", k, spans, e, learns)
			}
		}
	}
}
