package almanac_test

import (
	"math"
	"slices"
	"strings"
	"testing"

	"almanac/almanac"
	"almanac/api"
)

func subscribe(t *testing.T, l *almanac.Log, word string, want int) {
	t.Helper()
	if n, f := l.Subscribe(word); n != want || f != api.OK {
		t.Fatalf("P14: Subscribe(%q) = %d, %d, want %d, 0", word, n, f, want)
	}
}

func wantNoTail(t *testing.T, l *almanac.Log, word string, want api.Errno) {
	t.Helper()
	if n, f := l.Subscribe(word); n != 0 || f != want {
		t.Errorf("P14: Subscribe(%.100q) = %d, %d, want 0, %d", word, n, f, want)
	}
}

func unsubscribe(t *testing.T, l *almanac.Log, tail int) {
	t.Helper()
	if f := l.Unsubscribe(tail); f != api.OK {
		t.Errorf("P16: Unsubscribe(%d) = %d", tail, f)
	}
}

func wantPoll(t *testing.T, l *almanac.Log, tail int, want ...api.Entry) {
	t.Helper()
	if x, f := l.Poll(tail); !slices.Equal(x, want) || f != api.OK {
		t.Errorf("P15: Poll(%d) = %#v, %d, want %#v, 0", tail, x, f, want)
	}
}

// wantUnknown: there are no such tails.
func wantUnknown(t *testing.T, l *almanac.Log, tails ...int) {
	t.Helper()
	for _, n := range tails {
		if x, f := l.Poll(n); x != nil || f != api.ErrUnknown {
			t.Errorf("P15: Poll(%d) = %#v, %d", n, x, f)
		}
		if f := l.Unsubscribe(n); f != api.ErrUnknown {
			t.Errorf("P16: Unsubscribe(%d) = %d", n, f)
		}
	}
}

// never: numbers that no tail of these tests has.
var never = []int{math.MinInt, -1 << 32, -1, 100, 1 << 32, 1<<32 + 1, math.MaxInt}

// TestNumbersOfTails: they rise, whatever ends, and there are MaxTails at most.
func TestNumbersOfTails(t *testing.T) {
	l := fresh(t, small())
	wantUnknown(t, l, append(never, 0, 1)...)
	for i, word := range []string{"a", "b", "a", "0"} {
		wantUnknown(t, l, i)
		subscribe(t, l, word, i)
	}
	wantNoTail(t, l, "a", api.ErrMany)
	wantNoTail(t, l, "a b", api.ErrWord)
	wantUnknown(t, l, append(never, 4)...)
	unsubscribe(t, l, 2)
	wantUnknown(t, l, 2, 4)
	subscribe(t, l, "c", 4)
	wantNoTail(t, l, "a", api.ErrMany)
	for _, i := range []int{4, 0, 1, 3} {
		unsubscribe(t, l, i)
	}
	wantUnknown(t, l, 0, 1, 2, 3, 4, 5)
	for i := range 100 {
		subscribe(t, l, "a", 5+i)
		unsubscribe(t, l, 5+i)
	}
}

func TestNoTailOfNoWord(t *testing.T) {
	l := fresh(t, small())
	long := strings.Repeat("a", api.MaxText+1)
	for _, w := range []string{"", " ", "A", "aB", "a b", "a ", " a", "-", "é", "a\x00", "\xff", "_", "/", ":", "`", "{", long, strings.Repeat(long, 10000)} {
		wantNoTail(t, l, w, api.ErrWord)
	}
	wantUnknown(t, l, 0)
	for i, w := range []string{long[1:], "0", "z9"} {
		subscribe(t, l, w, i)
	}
	layDown(t, l, 0, "Z9 0", strings.ToUpper(long[1:]))
	wantPoll(t, l, 0, entry(1, 0, strings.ToUpper(long[1:])))
	wantPoll(t, l, 1, entry(0, 0, "Z9 0"))
	wantPoll(t, l, 2, entry(0, 0, "Z9 0"))
}

// TestPoll: a tail begins behind what was there, and gets what has its word, each once.
func TestPoll(t *testing.T) {
	c := small()
	c.Batch = 8
	l := fresh(t, c)
	layDown(t, l, 0, "a")
	subscribe(t, l, "a", 0)
	wantPoll(t, l, 0)
	layDown(t, l, 1, "b", "A-b")
	wantPoll(t, l, 0, entry(2, 0, "A-b"))
	wantPoll(t, l, 0)
	wantTick(t, l, 2, api.OK)
	subscribe(t, l, "b", 1)
	layDown(t, l, 3, "ab", "a", "b a")
	wantPoll(t, l, 1, entry(5, 2, "b a"))
	wantPoll(t, l, 0, entry(4, 2, "a"), entry(5, 2, "b a"))
	wantPoll(t, l, 0)
	wantPoll(t, l, 1)
}

// TestBatches: with every Batch, and every number of entries, they come by Batches; behind the last one there is nothing.
func TestBatches(t *testing.T) {
	for batch := 1; batch <= api.MaxBatch; batch++ {
		for n := range 3*api.MaxBatch + 1 {
			c := api.Config{Memory: 3, Fan: 4, Back: 4, Workers: 1, Keep: 1, Batch: batch}
			l := fresh(t, c)
			layDown(t, l, 0, "a")
			subscribe(t, l, "a", 0)
			var want []api.Entry
			for i := range n {
				want = append(want, entry(1+i, 0, "a"))
			}
			layDown(t, l, 1, texts("a", min(n, 20))...)
			if n > 20 {
				rest(t, l, c)
				layDown(t, l, 21, texts("a", n-20)...)
			}
			for len(want) > 0 {
				m := min(batch, len(want))
				wantPoll(t, l, 0, want[:m]...)
				want = want[m:]
			}
			wantPoll(t, l, 0)
			layDown(t, l, n+1, "b", "a")
			wantPoll(t, l, 0, entry(n+2, 0, "a"))
		}
	}
}

// TestPollAcrossLevels: entries of all levels and of memory come in their order, in Batches that go across segments.
func TestPollAcrossLevels(t *testing.T) {
	c := single(1)
	c.Batch = 3
	l := fresh(t, c)
	subscribe(t, l, "a", 0)
	for seq := range 63 {
		layDown(t, l, seq, []string{"a", "a b", "b"}[seq%3])
		rest(t, l, c)
	}
	wantLevels(t, l, 0, nil, []api.Shape{span(60, 61)}, []api.Shape{span(56, 59)}, []api.Shape{span(48, 55)}, []api.Shape{span(32, 47)}, []api.Shape{span(0, 31)})
	var told []api.Entry
	for range 14 {
		x, f := l.Poll(0)
		if len(x) != 3 || f != api.OK {
			t.Fatalf("P15: Poll = %#v, %d", x, f)
		}
		told = append(told, x...)
	}
	wantPoll(t, l, 0)
	want, _, _ := l.Query("a", 0, ever)
	if !slices.Equal(told, want) || len(told) != 42 {
		t.Errorf("P18: a tail was told %#v, want %#v", told, want)
	}
}

// TestOldOnesAreTold: a tail is told what no Query tells any more, merged or not.
func TestOldOnesAreTold(t *testing.T) {
	c := single(1)
	c.Keep, c.Batch = 3, 8
	l := fresh(t, c)
	subscribe(t, l, "a", 0)
	layDown(t, l, 0, "a", "b")
	wantTick(t, l, 4, api.OK)
	layDown(t, l, 2, "a", "a")
	wantTick(t, l, 1000, api.OK)
	wantQuery(t, l, "a", 0, ever, 2)
	rest(t, l, c)
	wantLevels(t, l, 0, spans(2, 2), []api.Shape{span(0, 1)})
	wantPoll(t, l, 0, entry(0, 0, "a"), entry(2, 4, "a"), entry(3, 4, "a"))
	wantPoll(t, l, 0)
}

// old: a log at rest but for one task, for level 0, of which all entries are old: each a segment of its own.
func old(t *testing.T, c api.Config, words ...string) *almanac.Log {
	t.Helper()
	l := fresh(t, c)
	layDown(t, l, 0, "a")
	for i, w := range words {
		subscribe(t, l, w, i)
	}
	layDown(t, l, 1, "a", "b", "a", "b", "b")
	wantTick(t, l, c.Keep+1, api.OK)
	wantLevels(t, l, 1, spans(0, 4))
	return l
}

// TestNeed: what is old stays, if a tail has need of it: all from its place on, whatever word it follows.
func TestNeed(t *testing.T) {
	c := single(1)
	l := old(t, c, "none")
	rest(t, l, c)
	wantLevels(t, l, 0, spans(4, 4), nil, []api.Shape{span(1, 3)})
	c.Fan = 4
	l = old(t, c)
	rest(t, l, c)
	wantLevels(t, l, 0, spans(4, 4))
}

// TestNeedBehindPoll: a Poll that told a whole Batch leaves the place behind the last one told, and one that told less, at the
// next number.
func TestNeedBehindPoll(t *testing.T) {
	for _, test := range []struct {
		word  string
		batch int
		polls int
		left  []api.Shape
	}{
		{"a", 1, 0, []api.Shape{span(1, 3)}},
		{"a", 1, 1, []api.Shape{span(2, 3)}},
		{"a", 1, 2, nil},
		{"b", 1, 1, []api.Shape{span(3, 3)}},
		{"b", 1, 2, nil},
		{"a", 2, 1, nil},
		{"a", 3, 1, nil},
		{"none", 1, 0, []api.Shape{span(1, 3)}},
		{"none", 1, 1, nil},
	} {
		c := single(1)
		c.Fan, c.Batch = 4, test.batch
		l := old(t, c, test.word)
		for range test.polls {
			if _, f := l.Poll(0); f != api.OK {
				t.Fatalf("P15: Poll = %d", f)
			}
		}
		rest(t, l, c)
		wantLevels(t, l, 0, spans(4, 4), test.left)
	}
}

// TestNeedOfTheNext: a tail that was told less than a Batch has need of all that comes then, and of nothing ahead of it.
func TestNeedOfTheNext(t *testing.T) {
	c := single(1)
	c.Fan = 4
	l := fresh(t, c)
	layDown(t, l, 0, "a", "b")
	subscribe(t, l, "a", 0)
	layDown(t, l, 2, "b")
	wantPoll(t, l, 0)
	layDown(t, l, 3, "a", "b")
	wantTick(t, l, c.Keep+1, api.OK)
	rest(t, l, c)
	wantLevels(t, l, 0, nil, spans(3, 3))
	wantPoll(t, l, 0, entry(3, 0, "a"))
}

// TestNeedOfSeveral: what one of them has need of stays, until that one is told or ends; and what is not old stays anyway.
func TestNeedOfSeveral(t *testing.T) {
	need := func(change func(l *almanac.Log), left ...api.Shape) {
		t.Helper()
		c := single(2)
		c.Fan, c.Batch = 4, 1
		l := old(t, c, "a", "b", "b")
		change(l)
		rest(t, l, c)
		wantLevels(t, l, 0, spans(4, 4), left)
	}
	need(func(l *almanac.Log) {}, span(1, 3))
	need(func(l *almanac.Log) { l.Poll(0) }, span(1, 3))
	need(func(l *almanac.Log) { l.Poll(0); l.Poll(1); l.Poll(2) }, span(2, 3))
	need(func(l *almanac.Log) { l.Unsubscribe(1); l.Unsubscribe(2) }, span(1, 3))
	need(func(l *almanac.Log) { l.Unsubscribe(1); l.Poll(0); l.Poll(2) }, span(2, 3))
	need(func(l *almanac.Log) { l.Unsubscribe(0); l.Poll(1); l.Poll(2) }, span(3, 3))
	need(func(l *almanac.Log) { l.Unsubscribe(0); l.Unsubscribe(1); l.Unsubscribe(2) })
	need(func(l *almanac.Log) { l.Unsubscribe(0); l.Unsubscribe(1); l.Unsubscribe(2); l.Subscribe("a") })
}

// TestNeedAtTheEnd: what counts is what tails have need of when the task ends.
func TestNeedAtTheEnd(t *testing.T) {
	c := single(1)
	c.Fan = 4
	l := old(t, c, "a")
	wantSteps(t, l, 0, 1, 1, 1, 1)
	wantPoll(t, l, 0, entry(1, 0, "a"), entry(3, 0, "a"))
	wantSteps(t, l, 0, 2)
	wantLevels(t, l, 0, spans(4, 4))
}

// TestTailsEndApart: the end of one is not noticed by the others, not even by one of the same word.
func TestTailsEndApart(t *testing.T) {
	l := fresh(t, small())
	for i := range 3 {
		subscribe(t, l, "a", i)
	}
	layDown(t, l, 0, "a")
	unsubscribe(t, l, 1)
	wantPoll(t, l, 0, entry(0, 0, "a"))
	wantPoll(t, l, 2, entry(0, 0, "a"))
	wantUnknown(t, l, 1)
	other := fresh(t, small())
	wantUnknown(t, other, 0, 2)
	subscribe(t, other, "a", 0)
	wantPoll(t, other, 0)
}

// TestNoTailsBehindNew: there are none, and their numbers begin again (P8).
func TestNoTailsBehindNew(t *testing.T) {
	d, h := api.NewDisk()
	l := open(t, small(), d)
	for i := range 4 {
		subscribe(t, l, "a", i)
	}
	layDown(t, l, 0, "a")
	d, _ = h.Crash(0)
	l = open(t, small(), d)
	wantUnknown(t, l, 0, 1, 2, 3, 4)
	for i := range 4 {
		subscribe(t, l, "a", i)
	}
	wantPoll(t, l, 0)
	layDown(t, l, 1, "a")
	wantPoll(t, l, 0, entry(1, 0, "a"))
}

// TestTailsOfALogThatIsDown: they go on, and are told what was laid down, but not what could not be made safe (P8).
func TestTailsOfALogThatIsDown(t *testing.T) {
	d, h := api.NewDisk()
	l := open(t, small(), d)
	subscribe(t, l, "a", 0)
	subscribe(t, l, "b", 1)
	layDown(t, l, 0, "a")
	h.Stop(1)
	wantNoAppend(t, l, "a", api.ErrDown)
	wantPoll(t, l, 0, entry(0, 0, "a"))
	wantPoll(t, l, 0)
	subscribe(t, l, "a", 2)
	wantPoll(t, l, 2)
	unsubscribe(t, l, 1)
	wantUnknown(t, l, 1)
	wantNoTail(t, l, "A", api.ErrWord)
}

// TestPollsStayApart: what Poll told is new memory (P2).
func TestPollsStayApart(t *testing.T) {
	l := fresh(t, wide())
	subscribe(t, l, "a", 0)
	subscribe(t, l, "a", 1)
	layDown(t, l, 0, "a")
	first, _ := l.Poll(0)
	first = first[:cap(first)]
	for i := range first {
		first[i] = entry(77, 77, "mine")
	}
	wantPoll(t, l, 1, entry(0, 0, "a"))
	wantQuery(t, l, "a", 0, ever, 0, entry(0, 0, "a"))
	if first[0] != entry(77, 77, "mine") {
		t.Errorf("P2: what Poll told is now %#v", first)
	}
}
