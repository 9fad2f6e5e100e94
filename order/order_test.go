package order_test

import (
	"cmp"
	"math"
	"math/rand/v2"
	"slices"
	"strings"
	"testing"

	"almanac/order"
)

type rank int8

type name string

// naive: what stands in any of the lists, rising, each once; made by asking each thing whether it is there.
func naive[T cmp.Ordered](lists ...[]T) []T {
	var l []T
	for _, x := range lists {
		for _, y := range x {
			if !slices.Contains(l, y) {
				l = append(l, y)
			}
		}
	}
	slices.Sort(l)
	return l
}

// naiveBoth: what stands in both lists.
func naiveBoth[T cmp.Ordered](a, b []T) []T {
	return slices.DeleteFunc(naive(a), func(x T) bool { return !slices.Contains(b, x) })
}

func wantMerge[T cmp.Ordered](t *testing.T, want []T, lists ...[]T) {
	t.Helper()
	if got := order.Merge(lists...); !slices.Equal(got, want) {
		t.Errorf("P3: Merge(%v) = %v, want %v", lists, got, want)
	}
}

func wantCommon[T cmp.Ordered](t *testing.T, want, a, b []T) {
	t.Helper()
	if got := order.Common(a, b); !slices.Equal(got, want) {
		t.Errorf("P3: Common(%v, %v) = %v, want %v", a, b, got, want)
	}
	if got := order.Common(b, a); !slices.Equal(got, want) {
		t.Errorf("P3: Common(%v, %v) = %v, want %v", b, a, got, want)
	}
}

func TestMerge(t *testing.T) {
	wantMerge[int](t, nil)
	wantMerge(t, nil, []int(nil))
	wantMerge(t, nil, []int{}, nil, []int{})
	wantMerge(t, []int{7}, []int{7})
	wantMerge(t, []int{7}, []int{7, 7, 7})
	wantMerge(t, []int{7}, nil, []int{7}, []int{7}, []int{})
	wantMerge(t, []int{1, 2, 3}, []int{3, 1, 2})
	wantMerge(t, []int{1, 2, 3}, []int{3, 3, 1, 2, 1})
	wantMerge(t, []int{1, 2, 3, 4, 5}, []int{5, 3}, []int{4, 2}, []int{1, 3, 5})
	wantMerge(t, []int{-2, -1, 0, 1}, []int{1, -2}, []int{0, -1})
	wantMerge(t, []int{math.MinInt, -1, 0, math.MaxInt}, []int{math.MaxInt, 0}, []int{math.MinInt, -1, math.MaxInt})
	wantMerge(t, []uint64{0, 1, 1 << 63, math.MaxUint64}, []uint64{math.MaxUint64, 1}, []uint64{1 << 63, 0})
	wantMerge(t, []rank{-128, 0, 127}, []rank{127, -128}, []rank{0})
	wantMerge(t, []float64{math.Inf(-1), -0.5, 0.25, 0.5, math.Inf(1)}, []float64{0.5, math.Inf(1), -0.5}, []float64{0.25, math.Inf(-1)})
}

func TestMergeOfTexts(t *testing.T) {
	wantMerge(t, []string{""}, []string{"", ""})
	wantMerge(t, []string{"", "\x00", "10", "9", "B", "a", "a\x00", "aa", "b", "z", "\x80", "é", "\xff"},
		[]string{"\xff", "é", "b", "a", "aa", "B"}, []string{"a\x00", "10", "9", "", "\x00", "\x80", "z", "a"})
	wantMerge(t, []name{"a", "b"}, []name{"b"}, []name{"a"})
	long := strings.Repeat("a", 1000)
	wantMerge(t, []string{long, long + "a", long + "b"}, []string{long + "b", long}, []string{long + "a", long})
}

func TestCommon(t *testing.T) {
	wantCommon[int](t, nil, nil, nil)
	wantCommon(t, nil, nil, []int{1})
	wantCommon(t, nil, []int{}, []int{1, 2})
	wantCommon(t, nil, []int{1, 3, 5}, []int{2, 4, 6})
	wantCommon(t, nil, []int{1, 2, 3}, []int{4, 5, 6})
	wantCommon(t, []int{2}, []int{2}, []int{2})
	wantCommon(t, []int{2}, []int{2, 2, 2}, []int{2, 2})
	wantCommon(t, []int{1, 2, 3}, []int{3, 1, 2}, []int{2, 3, 1})
	wantCommon(t, []int{1, 9}, []int{9, 5, 1}, []int{1, 4, 9, 9})
	wantCommon(t, []int{9}, []int{9, 1, 2, 3, 4}, []int{9})
	wantCommon(t, []int{math.MinInt, math.MaxInt}, []int{math.MaxInt, 0, math.MinInt}, []int{math.MinInt, 1, math.MaxInt})
	wantCommon(t, []uint64{math.MaxUint64}, []uint64{math.MaxUint64, 0}, []uint64{1, math.MaxUint64})
	wantCommon(t, []string{"", "a", "b"}, []string{"b", "", "A", "a"}, []string{"a", "b", "aa", ""})
	wantCommon(t, []rank{-5}, []rank{-5, 5}, []rank{4, -5})
	wantCommon(t, []float64{0.5}, []float64{0.5, 1}, []float64{1.5, 0.5})
}

// TestListsByChance holds many small lists against the naive answers.
func TestListsByChance(t *testing.T) {
	r := rand.New(rand.NewPCG(1, 2))
	some := func() []int {
		l := make([]int, r.IntN(12))
		for i := range l {
			l[i] = r.IntN(20) - 10
		}
		return l
	}
	for range 2000 {
		a, b, c := some(), some(), some()
		wantMerge(t, naive(a, b, c), a, b, c)
		wantCommon(t, naiveBoth(a, b), a, b)
	}
}

// TestLongLists: lists that are long, and many of them (P1).
func TestLongLists(t *testing.T) {
	const n = 200000
	falling, even := make([]int, n), make([]int, 0, n)
	for i := range falling {
		falling[i] = n - 1 - i
		if i%2 == 0 {
			even = append(even, i)
		}
	}
	all := slices.Clone(falling)
	slices.Reverse(all)
	if l := order.Merge(even, falling); !slices.Equal(l, all) {
		t.Errorf("P3: Merge of long lists: %d items", len(l))
	}
	if l := order.Common(falling, even); !slices.Equal(l, even) {
		t.Errorf("P3: Common of long lists: %d items", len(l))
	}
	single := make([][]int, n)
	for i := range single {
		single[i] = falling[i : i+1 : i+1]
	}
	if l := order.Merge(single...); !slices.Equal(l, all) {
		t.Errorf("P3: Merge of many lists: %d items", len(l))
	}
}

// roomy: a list with spare room, and all of that room.
func roomy(items ...int) (list, room []int) {
	room = append(slices.Clone(items), 1001, 1002, 1003, 1004, 1005, 1006)
	return room[:len(items)], room
}

// scribble writes over a list and its spare room.
func scribble(l []int) {
	l = l[:cap(l)]
	for i := range l {
		l[i] = -777
	}
}

// TestListsStayApart: nothing that is handed in is written into, and what comes out is new memory (P2).
func TestListsStayApart(t *testing.T) {
	for _, c := range [][2][]int{{{3, 1, 2, 3}, {5, 3, 1}}, {{1, 2, 3}, {4, 5}}, {{4, 5}, {1, 2, 3}}, {{1, 2, 3}, {1, 2, 3}}, {{1, 2, 3}, {}}, {{}, {1, 2, 3}}, {{1}, {1}}, {{2, 2}, {2, 2, 2}}} {
		a, roomA := roomy(c[0]...)
		b, roomB := roomy(c[1]...)
		wasA, wasB := slices.Clone(roomA), slices.Clone(roomB)
		same := func(what string) {
			t.Helper()
			if !slices.Equal(roomA, wasA) || !slices.Equal(roomB, wasB) {
				t.Errorf("P2: %s of %v wrote into a list: %v, %v", what, c, roomA, roomB)
				copy(roomA, wasA)
				copy(roomB, wasB)
			}
		}
		calls := []struct {
			what string
			call func() []int
		}{
			{"Merge", func() []int { return order.Merge(a, b) }},
			{"Merge of one", func() []int { return order.Merge(a) }},
			{"Merge with nothing", func() []int { return order.Merge(nil, b, nil) }},
			{"Merge of twice the same", func() []int { return order.Merge(a, a) }},
			{"Common", func() []int { return order.Common(a, b) }},
			{"Common of twice the same", func() []int { return order.Common(a, a) }},
		}
		for _, x := range calls {
			first := x.call()
			same(x.what)
			want := slices.Clone(first)
			second := x.call()
			scribble(second)
			same(x.what)
			if !slices.Equal(first, want) {
				t.Errorf("P2: two answers of %s share memory", x.what)
			}
			if third := x.call(); !slices.Equal(third, want) {
				t.Errorf("P2: %s of the same lists: %v, then %v", x.what, want, third)
			}
		}
	}
}

// TestMergeLeavesTheListOfLists: the list of the lists is one that is handed in, too (P2).
func TestMergeLeavesTheListOfLists(t *testing.T) {
	room := [][]int{{9, 8}, {1}, {5, 5}, {77}, {66}}
	if l := order.Merge(room[:3]...); !slices.Equal(l, []int{1, 5, 8, 9}) {
		t.Errorf("P3: Merge = %v", l)
	}
	for i, want := range [][]int{{9, 8}, {1}, {5, 5}, {77}, {66}} {
		if !slices.Equal(room[i], want) {
			t.Errorf("P2: list %d is %v, want %v", i, room[i], want)
		}
	}
}

// TestListsAreNotKept: an answer hangs on its arguments alone (P2).
func TestListsAreNotKept(t *testing.T) {
	a, b := []int{1, 2, 3}, []int{2, 3, 4}
	merged, both := order.Merge(a, b), order.Common(a, b)
	for i := range a {
		a[i], b[i] = 50+i, 60+i
	}
	order.Merge([]int{7, 8}, []int{9})
	order.Common([]int{7, 8}, []int{8})
	if !slices.Equal(merged, []int{1, 2, 3, 4}) || !slices.Equal(both, []int{2, 3}) {
		t.Errorf("P2: answers have changed: %v, %v", merged, both)
	}
	wantMerge(t, []int{50, 51, 52, 60, 61, 62}, a, b)
	wantCommon(t, nil, a, b)
}
