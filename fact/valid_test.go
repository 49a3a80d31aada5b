package fact_test

import (
	"fmt"
	"math"
	"slices"
	"strings"
	"testing"

	"annuitant/api"
	"annuitant/fact"
)

// invalidFacts returns facts that are not valid.
func invalidFacts() []api.Fact {
	v := number("1/2")
	list := []api.Fact{{}, {Gone: true}, {Key: "a"}, {Key: "a", To: 1}, {Key: "a", V: v}}
	for _, key := range []string{"", strings.Repeat("k", api.MaxName+1), strings.Repeat("k", 1000), strings.Repeat("é", 13), strings.Repeat("\x00", 25)} {
		list = append(list, is(key, 0, 1, 0, v), gone(key, 0, 1, 0))
	}
	for _, s := range [][2]int{{0, 0}, {5, 5}, {api.MaxDay, api.MaxDay}, {1, 0}, {api.MaxDay, 0}, {6, 5}, {-1, 0}, {-1, 5}, {-1, -1}, {-2, -1}, {0, api.MaxDay + 1}, {api.MaxDay, api.MaxDay + 1},
		{5, math.MaxInt64}, {math.MinInt64, 5}, {math.MinInt64, math.MaxInt64}, {math.MaxInt64, math.MinInt64}, {5, math.MinInt64}, {math.MaxInt64, 5}, {0, 1<<32 + 5}, {-1 << 32, 5}, {1 << 32, 1<<32 + 5}} {
		list = append(list, is("a", s[0], s[1], 0, v), gone("a", s[0], s[1], 0))
	}
	for _, known := range []int{-1, -2, api.MaxDay, api.MaxDay + 1, 1 << 32, -1 << 32, math.MaxInt64, math.MinInt64} {
		list = append(list, is("a", 0, 1, known, v), gone("a", 0, 1, known))
	}
	for _, bad := range invalidValues() {
		list = append(list, is("a", 0, 1, 0, bad))
	}
	for _, bad := range append(goneValues(), v) {
		f := gone("a", 0, 1, 0)
		f.V = bad
		list = append(list, f)
	}
	return list
}

// invalidValues returns values that are not valid.
func invalidValues() []api.Value {
	one := api.Whole{Limbs: []uint16{1}}
	return append(goneValues(), api.Value{}, plain(api.Number, 0), plain(api.Money, 0), plain(api.Truth, 2), plain(api.Truth, -1),
		plain(api.Date, -1), plain(api.Date, api.MaxDay), plain(api.Days, 1<<20+1), plain(api.Months, -1<<20-1),
		api.Value{Kind: api.Number, F: number("1").F, I: 1}, api.Value{Kind: api.Days, F: number("1").F}, api.Value{Kind: 7, F: number("1").F},
		api.Value{Kind: api.Money, F: api.Frac{N: api.Whole{Limbs: []uint16{2}}, D: api.Whole{Limbs: []uint16{4}}}}, api.Value{Kind: api.Number, F: api.Frac{N: one}})
}

// goneValues returns values that are neither valid nor the zero value, though nearly so.
func goneValues() []api.Value {
	return []api.Value{{I: 1}, {Kind: 7}, {Kind: 255}, {F: number("0").F}, {F: number("1").F}, {I: math.MinInt64},
		{F: api.Frac{N: api.Whole{Neg: true}}}, {F: api.Frac{D: api.Whole{Neg: true}}}, {F: api.Frac{N: api.Whole{Limbs: []uint16{0}}}}, {F: api.Frac{D: api.Whole{Limbs: []uint16{0}}}}}
}

// validFacts returns facts that are valid.
func validFacts() []api.Fact {
	v := number("1/2")
	list := []api.Fact{
		is("a", 0, 1, 0, v), is(strings.Repeat("k", api.MaxName), 0, 1, 0, v), is("\x00", 0, 1, 0, v), is(" ", 0, 1, 0, v), is(strings.Repeat("é", 12), 0, 1, 0, v), is("\xff\xfe", 0, 1, 0, v),
		is("a", 0, api.MaxDay, 0, v), is("a", api.MaxDay-1, api.MaxDay, 0, v), is("a", 5, 6, api.MaxDay-1, v), is("a", 5, 6, 1000, v),
		gone("a", 0, 1, 0), gone("a", 0, api.MaxDay, api.MaxDay-1), gone(strings.Repeat("k", api.MaxName), 7, 8, 9),
		{Key: "a", To: 1, Gone: true, V: api.Value{F: api.Frac{N: api.Whole{Limbs: []uint16{}}, D: api.Whole{Limbs: []uint16{}}}}},
		is("a", 0, 1, 0, plain(api.Days, 1<<20)), is("a", 0, 1, 0, plain(api.Months, -1<<20)), is("a", 0, 1, 0, plain(api.Date, api.MaxDay-1)),
	}
	for _, kind := range kinds() {
		for _, v := range some(kind) {
			list = append(list, is("a", 3, 4, 5, v))
		}
	}
	return list
}

// P6.1: Right reports whether a fact is valid.
func TestRight(t *testing.T) {
	for _, f := range validFacts() {
		if !fact.Right(f) || !fact.Valid([]api.Fact{f}) {
			t.Errorf("Right(%v) = %v, Valid = %v", f, fact.Right(f), fact.Valid([]api.Fact{f}))
		}
	}
	for _, f := range invalidFacts() {
		if fact.Right(f) || fact.Valid([]api.Fact{f}) {
			t.Errorf("Right(%v) = %v, Valid = %v", f, fact.Right(f), fact.Valid([]api.Fact{f}))
		}
	}
}

// many returns n facts of one key.
func many(n int) []api.Fact { return slices.Repeat([]api.Fact{is("a", 0, 1, 0, number("1"))}, n) }

// notRecords returns slices of facts that are not records.
func notRecords() [][]api.Fact {
	half, days := number("1/2"), plain(api.Days, 1)
	a, b := is("a", 0, 10, 3, half), is("b", 5, 20, 2, days)
	list := [][]api.Fact{
		many(api.MaxFacts + 1), many(api.MaxFacts + 100),
		{a, is("a", 0, 10, 3, days)}, {a, is("a", 50, 60, 7, money("1/2"))}, {a, b, is("a", 50, 60, 0, days)}, {a, b, gone("a", 0, 1, 2), is("a", 50, 60, 0, days)},
		{b, a, is("b", 0, 1, 0, plain(api.Months, 1))}, {gone("a", 0, 1, 0), a, gone("a", 0, 1, 0), is("a", 0, 1, 0, plain(api.Truth, 0))},
		{a, gone("b", 0, 1, 0), b, is("b", 0, 10, 3, half)},
	}
	for _, bad := range invalidFacts() {
		list = append(list, []api.Fact{bad}, []api.Fact{a, bad}, []api.Fact{bad, b}, []api.Fact{a, bad, b})
	}
	return list
}

// P6.1: Valid reports whether l is a record: the facts of one key have one kind, in any order, those that are gone aside.
func TestValid(t *testing.T) {
	half, days := number("1/2"), plain(api.Days, 1)
	for i, l := range [][]api.Fact{
		nil, {}, example(), many(api.MaxFacts), {is("a", 0, 10, 3, half), is("b", 0, 10, 3, days), is("a", 0, 10, 3, half), is("b", 0, 10, 2, days)},
		{gone("a", 0, 1, 2), is("a", 0, 10, 3, half), gone("a", 0, 1, 2), is("a", 0, 10, 3, half), gone("b", 0, 1, 1)}, {gone("a", 0, 1, 2), gone("a", 5, 6, 0), gone("b", 5, 6, 0)},
		{is("a", 0, 10, 3, half), is("A", 0, 10, 3, days), is("a ", 0, 10, 3, plain(api.Truth, 1)), is("aa", 0, 10, 3, money("1"))},
		{is("a", 30, 40, 9, half), is("a", 0, 10, 3, half), is("a", 35, 36, 0, half)},
	} {
		if !fact.Valid(l) {
			t.Errorf("record %d is none", i)
		}
	}
	for i, l := range notRecords() {
		if fact.Valid(l) {
			t.Errorf("%d is a record: %v", i, short(l))
		}
	}
}

// If l is not a record, View and Diff return ErrArg and empty slices, and the others return empty slices, 0, or a zero value and false.
func TestNotRecords(t *testing.T) {
	for i, l := range notRecords() {
		for _, key := range []string{"a", "b", "", "c"} {
			steps, e := fact.View(l, key, 100)
			spans, e2 := fact.Diff(l, key, 0, 100)
			if len(steps) > 0 || e != api.ErrArg || len(spans) > 0 || e2 != api.ErrArg {
				t.Errorf("%d, key %q: View = %v, error %d; Diff = %v, error %d", i, key, steps, e, spans, e2)
			}
			v, ok := fact.At(l, key, 0, 100)
			expectValue(t, api.Value{}, false, v, ok, "At", i, key)
			expectList(t, nil, fact.Learns(l, key), "Learns", i, key)
			if k := fact.Kind(l, key); k != 0 {
				t.Errorf("%d: Kind(%q) = %d", i, key, k)
			}
		}
		expectList(t, nil, fact.Keys(l), "Keys", i)
	}
}

// P6.1: Keys returns the keys in increasing order of their bytes, without duplicates, also those of facts that are gone.
func TestKeys(t *testing.T) {
	v := number("1")
	expectList(t, nil, fact.Keys(nil))
	expectList(t, []string{"fte"}, fact.Keys(example()))
	var l []api.Fact
	keys := []string{"\x00", "\x00\x00", " ", "A", "Z", "_", "a", "a\x00", "aa", "ab", "b", "\x7f", "é", "\xff"}
	for i := range 3 * len(keys) {
		l = append(l, is(keys[(i*5)%len(keys)], i, i+1, 100-i, v), gone(keys[(i*3)%len(keys)], i, i+1, i))
	}
	expectList(t, keys, fact.Keys(l))
	expectList(t, []string{"a", "b"}, fact.Keys([]api.Fact{gone("b", 0, 1, 0), gone("a", 0, 1, 0), is("b", 0, 1, 0, v)}))
	var all []string
	l = nil
	for i := range api.MaxFacts {
		all = append(all, fmt.Sprintf("%s%04d", strings.Repeat("k", 20), i))
		l = append(l, is(fmt.Sprintf("%s%04d", strings.Repeat("k", 20), api.MaxFacts-1-i), 0, 1, 0, some(kinds()[i%6])[0]))
	}
	expectList(t, all, fact.Keys(l))
}

// P6.1: Kind returns the kind of the values of a key, or 0 if it has none.
func TestKind(t *testing.T) {
	var l []api.Fact
	want := map[string]uint8{"": 0, "a": 0, "none": 0, strings.Repeat("k", 100): 0}
	for i, kind := range kinds() {
		key := string(rune('p' + i))
		want[key], want[key+" "], want[key+"gone"] = kind, 0, 0
		l = append(l, gone(key, 0, 1, 0), is(key, 0, 1, 0, some(kind)[1]), gone(key, 0, 1, 0), gone(key+"gone", 0, 1, 0), is(key, 5, 6, 0, some(kind)[0]))
	}
	for key, kind := range want {
		if got := fact.Kind(l, key); got != kind {
			t.Errorf("Kind(%q) = %d, want %d", key, got, kind)
		}
	}
	if got := fact.Kind(nil, "a"); got != 0 {
		t.Errorf("Kind of nothing = %d", got)
	}
}
