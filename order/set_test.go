package order_test

import (
	"cmp"
	"math"
	"math/rand/v2"
	"slices"
	"strings"
	"testing"

	"almanac/order"
)

// wantSet holds a set against the items that it must have, rising.
func wantSet[T cmp.Ordered](t *testing.T, s *order.Set[T], items []T) {
	t.Helper()
	if s.Len() != len(items) {
		t.Errorf("P4: Len() = %d, want %d", s.Len(), len(items))
	}
	for i, x := range items {
		if y, ok := s.At(i); y != x || !ok {
			t.Errorf("P4: At(%d) = %v, %t, want %v", i, y, ok, x)
		}
		if !s.Has(x) {
			t.Errorf("P4: Has(%v) = false", x)
		}
	}
	var zero T
	for _, i := range []int{math.MinInt, -len(items) - 1, -2, -1, len(items), len(items) + 1, math.MaxInt} {
		if y, ok := s.At(i); y != zero || ok {
			t.Errorf("P4: At(%d) of %d = %v, %t", i, len(items), y, ok)
		}
	}
	if n := len(items); n > 0 {
		if l := s.Between(items[0], items[n-1]); !slices.Equal(l, items) {
			t.Errorf("P4: Between(%v, %v) = %v, want %v", items[0], items[n-1], l, items)
		}
	}
}

func wantBetween[T cmp.Ordered](t *testing.T, s *order.Set[T], lo, hi T, want ...T) {
	t.Helper()
	if l := s.Between(lo, hi); !slices.Equal(l, want) {
		t.Errorf("P4: Between(%v, %v) = %v, want %v", lo, hi, l, want)
	}
}

// add puts items in, each of which must be new, or none.
func add[T cmp.Ordered](t *testing.T, s *order.Set[T], fresh bool, items ...T) {
	t.Helper()
	for _, x := range items {
		if s.Add(x) != fresh {
			t.Errorf("P4: Add(%v) = %t", x, !fresh)
		}
	}
}

func TestSetOfNothing(t *testing.T) {
	var s order.Set[int]
	wantSet(t, &s, nil)
	wantBetween(t, &s, math.MinInt, math.MaxInt)
	wantBetween(t, &s, 0, 0)
	for _, x := range []int{0, 1, -1, math.MinInt, math.MaxInt} {
		if s.Has(x) {
			t.Errorf("P4: a set of nothing has %d", x)
		}
	}
	var texts order.Set[string]
	wantSet(t, &texts, nil)
	if texts.Has("") || len(texts.Between("", "z")) != 0 {
		t.Error("P4: a set of nothing has something")
	}
	if !texts.Add("") || texts.Add("") {
		t.Error("P4: Add of the text without bytes")
	}
	wantSet(t, &texts, []string{""})
}

func TestSetOfNumbers(t *testing.T) {
	s := new(order.Set[int])
	add(t, s, true, 5)
	wantSet(t, s, []int{5})
	add(t, s, true, 0, math.MaxInt, -5, math.MinInt)
	add(t, s, false, 5, 0, math.MaxInt, -5, math.MinInt)
	wantSet(t, s, []int{math.MinInt, -5, 0, 5, math.MaxInt})
	for _, x := range []int{1, -1, 4, 6, math.MinInt + 1, math.MaxInt - 1} {
		if s.Has(x) {
			t.Errorf("P4: Has(%d) = true", x)
		}
	}
	wantBetween(t, s, math.MinInt, math.MaxInt, math.MinInt, -5, 0, 5, math.MaxInt)
	wantBetween(t, s, -5, 5, -5, 0, 5)
	wantBetween(t, s, -4, 4, 0)
	wantBetween(t, s, 0, 0, 0)
	wantBetween(t, s, 1, 4)
	wantBetween(t, s, 1, 1)
	wantBetween(t, s, 5, -5)
	wantBetween(t, s, math.MaxInt, math.MinInt)
	wantBetween(t, s, 6, math.MaxInt, math.MaxInt)
	wantBetween(t, s, math.MinInt, -6, math.MinInt)
}

func TestSetOfTexts(t *testing.T) {
	s := new(order.Set[string])
	add(t, s, true, "b", "a", "", "ab", "B", "10", "9", "\xff", "é")
	add(t, s, false, "", "ab", "\xff", "10")
	wantSet(t, s, []string{"", "10", "9", "B", "a", "ab", "b", "é", "\xff"})
	wantBetween(t, s, "a", "b", "a", "ab", "b")
	wantBetween(t, s, "aa", "az", "ab")
	wantBetween(t, s, "", "", "")
	wantBetween(t, s, "c", strings.Repeat("\xff", 9), "é", "\xff")
	wantBetween(t, s, "b", "a")
	if s.Has("A") || s.Has("abc") || s.Has("1") || s.Has("\x00") {
		t.Error("P4: Has of what is not there")
	}
}

func TestSetsOfOtherKinds(t *testing.T) {
	small := new(order.Set[rank])
	add(t, small, true, 127, -128, 0)
	add(t, small, false, 0, -128)
	wantSet(t, small, []rank{-128, 0, 127})
	great := new(order.Set[uint64])
	add(t, great, true, 1<<63, 0, math.MaxUint64, 1)
	wantSet(t, great, []uint64{0, 1, 1 << 63, math.MaxUint64})
	parts := new(order.Set[float64])
	add(t, parts, true, 0.5, math.Inf(1), 0.25, math.Inf(-1), -0.5)
	add(t, parts, false, 0.25)
	wantSet(t, parts, []float64{math.Inf(-1), -0.5, 0.25, 0.5, math.Inf(1)})
	wantBetween(t, parts, 0, 1, 0.25, 0.5)
	named := new(order.Set[name])
	add(t, named, true, "b", "a")
	wantSet(t, named, []name{"a", "b"})
}

// TestSetByChance holds sets against lists, as items come in any order.
func TestSetByChance(t *testing.T) {
	r := rand.New(rand.NewPCG(3, 4))
	for round := range 60 {
		var s order.Set[int]
		var items []int
		span := 1 + r.IntN(400)
		for range 150 {
			x := r.IntN(span) - span/2
			i, found := slices.BinarySearch(items, x)
			if s.Has(x) != found {
				t.Fatalf("P4: round %d: Has(%d) = %t", round, x, !found)
			}
			if s.Add(x) == found {
				t.Fatalf("P4: round %d: Add(%d) = %t", round, x, found)
			}
			if !found {
				items = slices.Insert(items, i, x)
			}
			lo, hi := r.IntN(span)-span/2, r.IntN(span)-span/2
			within := slices.DeleteFunc(slices.Clone(items), func(y int) bool { return y < lo || y > hi })
			wantBetween(t, &s, lo, hi, within...)
		}
		wantSet(t, &s, items)
	}
}

// TestSetByOrder: items that come rising, falling, from both ends, from the middle, by strides.
func TestSetByOrder(t *testing.T) {
	const n = 3000
	var rising, ends, strides []int
	for i := range n {
		rising = append(rising, i)
		strides = append(strides, i*1667%n)
	}
	for i := range n / 2 {
		ends = append(ends, i, n-1-i)
	}
	falling, middle := slices.Clone(rising), slices.Clone(ends)
	slices.Reverse(falling)
	slices.Reverse(middle)
	for _, l := range [][]int{rising, falling, ends, middle, strides} {
		s := new(order.Set[int])
		add(t, s, true, l...)
		add(t, s, false, l...)
		wantSet(t, s, rising)
	}
}

// TestSetsStayApart: sets have nothing to do with one another, nor with what they told (P2).
func TestSetsStayApart(t *testing.T) {
	var a, b order.Set[int]
	add(t, &a, true, 3, 1, 2)
	add(t, &b, true, 2, 9, 8, 7)
	add(t, &a, true, 9)
	wantSet(t, &a, []int{1, 2, 3, 9})
	wantSet(t, &b, []int{2, 7, 8, 9})
	told := a.Between(1, 9)
	again := a.Between(1, 9)
	scribble(again)
	wantSet(t, &a, []int{1, 2, 3, 9})
	add(t, &a, true, 0, 4, 5, 10)
	add(t, &b, true, 1)
	if !slices.Equal(told, []int{1, 2, 3, 9}) {
		t.Errorf("P2: what Between told has changed: %v", told)
	}
	part := a.Between(2, 4)
	scribble(part)
	wantSet(t, &a, []int{0, 1, 2, 3, 4, 5, 9, 10})
	wantSet(t, &b, []int{1, 2, 7, 8, 9})
}
