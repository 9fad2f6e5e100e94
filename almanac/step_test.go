package almanac_test

import (
	"math"
	"slices"
	"testing"

	"almanac/almanac"
	"almanac/api"
)

// single: a configuration with which every text but the last one is a segment of its own.
func single(workers int) api.Config {
	return api.Config{Memory: 1, Fan: 2, Back: api.MaxBack, Workers: workers, Keep: 10, Batch: 2}
}

// span: the shape of a segment of all entries from first to last.
func span(first, last int) api.Shape {
	return api.Shape{First: first, Last: last, Count: last - first + 1}
}

// spans: the shapes of segments of one entry each, from first to last.
func spans(first, last int) []api.Shape {
	var l []api.Shape
	for ; first <= last; first++ {
		l = append(l, span(first, first))
	}
	return l
}

// wantLevels: so many tasks, and these segments: those of level 0 first; levels that are not named have none.
func wantLevels(t *testing.T, l *almanac.Log, pending int, want ...[]api.Shape) {
	t.Helper()
	want = append(slices.Clip(want), make([][]api.Shape, 6-len(want))...)
	if x := l.Levels(); !slices.EqualFunc(x, want, slices.Equal[[]api.Shape]) {
		t.Errorf("P13: Levels() = %v, want %v", x, want)
	}
	if n := l.Pending(); n != pending {
		t.Errorf("P13: Pending() = %d, want %d", n, pending)
	}
}

// wantSteps: the steps of a worker, one behind the other.
func wantSteps(t *testing.T, l *almanac.Log, worker int, want ...int) {
	t.Helper()
	for i, w := range want {
		if n, f := l.Step(worker); n != w || f != api.OK {
			t.Fatalf("P12: step %d: Step(%d) = %d, %d, want %d, 0", i, worker, n, f, w)
		}
	}
}

// rest: each worker does a step by turns, until there is nothing to do; that must be so at last (P19).
func rest(t *testing.T, l *almanac.Log, c api.Config) {
	t.Helper()
	for range 10000 {
		did := 0
		for w := range c.Workers {
			n, f := l.Step(w)
			if f != api.OK {
				t.Fatalf("P12: Step(%d) = %d, %d", w, n, f)
			}
			did += n
		}
		if did == 0 {
			wantRest(t, l, c)
			return
		}
	}
	t.Fatalf("P19: %+v: it does not come to rest: %v, %d tasks", c, l.Levels(), l.Pending())
}

func wantRest(t *testing.T, l *almanac.Log, c api.Config) {
	t.Helper()
	levels := l.Levels()
	for i, level := range levels[:len(levels)-1] {
		if len(level) >= c.Fan {
			t.Errorf("P19: %+v: at rest level %d has %v", c, i, level)
		}
	}
	if n := l.Pending(); n != 0 {
		t.Errorf("P19: %+v: at rest there are %d tasks", c, n)
	}
}

// texts: so many of them, all alike.
func texts(text string, n int) []string { return slices.Repeat([]string{text}, n) }

func TestStepOfTheDocument(t *testing.T) {
	c := single(1)
	c.Back = 1
	l := fresh(t, c)
	layDown(t, l, 0, "a", "b", "c")
	wantLevels(t, l, 1, spans(0, 1))
	layDown(t, l, 3, "d")
	wantLevels(t, l, 1, spans(0, 2))
	wantNoAppend(t, l, "e", api.ErrBusy)
	wantSteps(t, l, 0, 1, 1)
	wantNoAppend(t, l, "e", api.ErrBusy)
	wantLevels(t, l, 1, spans(0, 2))
	wantSteps(t, l, 0, 2)
	wantLevels(t, l, 0, spans(2, 2), []api.Shape{span(0, 1)})
	layDown(t, l, 4, "e")
	wantLevels(t, l, 1, spans(2, 3), []api.Shape{span(0, 1)})
}

func TestNoSuchWorker(t *testing.T) {
	for workers := 1; workers <= api.MaxWorkers; workers++ {
		l := fresh(t, single(workers))
		refuse := func() {
			t.Helper()
			for _, w := range []int{math.MinInt, -1 << 32, -workers, -1, workers, workers + 1, 1 << 32, math.MaxInt} {
				if n, f := l.Step(w); n != 0 || f != api.ErrArg {
					t.Errorf("P12: with %d workers Step(%d) = %d, %d", workers, w, n, f)
				}
			}
		}
		refuse()
		layDown(t, l, 0, "a", "b", "c")
		refuse()
		wantLevels(t, l, 1, spans(0, 1))
		for w := range workers - 1 {
			wantSteps(t, l, workers-1-w, []int{1, 0, 0}[w])
		}
	}
}

// TestNothingToDo: a worker does nothing as long as no level has Fan segments, however often it is asked.
func TestNothingToDo(t *testing.T) {
	for fan := 2; fan <= api.MaxFan; fan++ {
		c := single(2)
		c.Fan = fan
		l := fresh(t, c)
		for i := range fan {
			wantLevels(t, l, 0, spans(0, i-2))
			layDown(t, l, i, "a")
			wantSteps(t, l, 0, 0, 0)
			wantSteps(t, l, 1, 0)
		}
		layDown(t, l, fan, "a")
		wantLevels(t, l, 1, spans(0, fan-1))
	}
}

// TestStepsOfATask: it is taken, Fan segments are read, and the last of these steps ends it; until then all segments stay.
func TestStepsOfATask(t *testing.T) {
	for fan := 2; fan <= api.MaxFan; fan++ {
		c := single(1)
		c.Fan = fan
		l := fresh(t, c)
		layDown(t, l, 0, texts("a", fan+2)...)
		for range fan {
			wantLevels(t, l, 1, spans(0, fan))
			wantSteps(t, l, 0, 1)
		}
		wantLevels(t, l, 1, spans(0, fan))
		wantSteps(t, l, 0, 2)
		wantLevels(t, l, 0, spans(fan, fan), []api.Shape{span(0, fan-1)})
		wantSteps(t, l, 0, 0)
	}
}

// TestSegmentsThatComeMeanwhile: a task is of the first Fan segments, and what comes to its level while it runs stays there.
func TestSegmentsThatComeMeanwhile(t *testing.T) {
	l := fresh(t, single(1))
	layDown(t, l, 0, "a", "b", "c")
	wantSteps(t, l, 0, 1)
	layDown(t, l, 3, "d")
	wantSteps(t, l, 0, 1)
	layDown(t, l, 4, "e", "f")
	wantLevels(t, l, 1, spans(0, 4))
	wantSteps(t, l, 0, 2)
	wantLevels(t, l, 1, spans(2, 4), []api.Shape{span(0, 1)})
}

// TestShapes: of segments of several entries; the memory is no segment.
func TestShapes(t *testing.T) {
	c := single(1)
	c.Memory = 3
	l := fresh(t, c)
	wantLevels(t, l, 0)
	layDown(t, l, 0, "a", "", "-")
	wantLevels(t, l, 0)
	layDown(t, l, 3, "a", "a", "a", "a")
	wantLevels(t, l, 1, []api.Shape{span(0, 2), span(3, 5)})
	rest(t, l, c)
	wantLevels(t, l, 0, nil, []api.Shape{span(0, 5)})
	wantQuery(t, l, "a", 0, ever, 1, entry(0, 0, "a"), entry(3, 0, "a"), entry(4, 0, "a"), entry(5, 0, "a"), entry(6, 0, "a"))
}

// TestLowestFirst: an end makes two levels due: the lower one's task is laid first; and a worker takes its own last one.
func TestLowestFirst(t *testing.T) {
	l := fresh(t, single(1))
	layDown(t, l, 0, texts("a", 7)...)
	wantSteps(t, l, 0, 1, 1, 2)
	wantLevels(t, l, 1, spans(2, 5), []api.Shape{span(0, 1)})
	wantSteps(t, l, 0, 1, 1, 2)
	wantLevels(t, l, 2, spans(4, 5), []api.Shape{span(0, 1), span(2, 3)})
	wantSteps(t, l, 0, 1, 1, 2)
	wantLevels(t, l, 1, spans(4, 5), nil, []api.Shape{span(0, 3)})
	wantSteps(t, l, 0, 1, 1, 2, 0)
	wantLevels(t, l, 0, nil, []api.Shape{span(4, 5)}, []api.Shape{span(0, 3)})
}

// merging: a log of two workers, with tasks for levels 0 and 2, in this order, in the list of worker 0.
func merging(t *testing.T) *almanac.Log {
	t.Helper()
	l := fresh(t, single(2))
	layDown(t, l, 0, texts("a", 7)...)
	wantSteps(t, l, 0, 1, 1, 2, 1, 1, 2) // 0 and 1, 2 and 3
	wantSteps(t, l, 1, 1, 1, 2)          // 0 to 3
	wantLevels(t, l, 1, spans(4, 5), nil, []api.Shape{span(0, 3)})
	layDown(t, l, 7, texts("a", 4)...)
	wantSteps(t, l, 0, 1, 1, 2, 1, 1, 2) // 4 and 5, 6 and 7
	wantLevels(t, l, 2, spans(8, 9), []api.Shape{span(4, 5), span(6, 7)}, []api.Shape{span(0, 3)})
	wantSteps(t, l, 1, 1, 1, 2) // 4 to 7
	wantLevels(t, l, 2, spans(8, 9), nil, []api.Shape{span(0, 3), span(4, 7)})
	return l
}

// TestOwnLast: a worker takes the last task of its list.
func TestOwnLast(t *testing.T) {
	l := merging(t)
	wantSteps(t, l, 0, 1, 1, 2)
	wantLevels(t, l, 1, spans(8, 9), nil, nil, []api.Shape{span(0, 7)})
}

// TestOthersFirst: from another's list it takes the first one.
func TestOthersFirst(t *testing.T) {
	l := merging(t)
	wantSteps(t, l, 1, 1)
	wantSteps(t, l, 0, 1)
	wantSteps(t, l, 1, 1, 2)
	wantLevels(t, l, 1, nil, []api.Shape{span(8, 9)}, []api.Shape{span(0, 3), span(4, 7)})
	wantSteps(t, l, 0, 1, 2)
	wantLevels(t, l, 0, nil, []api.Shape{span(8, 9)}, nil, []api.Shape{span(0, 7)})
}

// TestOwnAheadOfOthers: a worker that has a task of its own does not ask for another's.
func TestOwnAheadOfOthers(t *testing.T) {
	l := merging(t)
	layDown(t, l, 11, "a", "a")
	wantLevels(t, l, 2, spans(8, 11), nil, []api.Shape{span(0, 3), span(4, 7)})
	wantSteps(t, l, 1, 1, 1, 2) // level 0, from worker 0
	wantLevels(t, l, 2, spans(10, 11), []api.Shape{span(8, 9)}, []api.Shape{span(0, 3), span(4, 7)})
	wantSteps(t, l, 1, 1, 1, 2) // level 2, which was ahead of level 0 then
	wantLevels(t, l, 1, spans(10, 11), []api.Shape{span(8, 9)}, nil, []api.Shape{span(0, 7)})
	wantSteps(t, l, 1, 1, 1, 2)
	wantLevels(t, l, 1, nil, []api.Shape{span(8, 9), span(10, 11)}, nil, []api.Shape{span(0, 7)})
	layDown(t, l, 13, "a", "a")
	wantLevels(t, l, 2, spans(12, 13), []api.Shape{span(8, 9), span(10, 11)}, nil, []api.Shape{span(0, 7)})
	wantSteps(t, l, 1, 1, 1, 2) // level 1, its own, though the other list is as long, and has the lesser number
	wantLevels(t, l, 1, spans(12, 13), nil, []api.Shape{span(8, 11)}, []api.Shape{span(0, 7)})
}

// TestLeastOfTheLongest: of lists that are alike it is the one with the least number.
func TestLeastOfTheLongest(t *testing.T) {
	for thief := 2; thief < api.MaxWorkers; thief++ {
		l := fresh(t, single(4))
		layDown(t, l, 0, texts("a", 7)...)
		wantSteps(t, l, 0, 1, 1, 2, 1, 1, 2)
		wantLevels(t, l, 2, spans(4, 5), []api.Shape{span(0, 1), span(2, 3)})
		wantSteps(t, l, thief, 1, 1, 2)
		wantLevels(t, l, 1, nil, []api.Shape{span(0, 1), span(2, 3), span(4, 5)})
		wantSteps(t, l, 5-thief, 1, 1, 2)
		wantLevels(t, l, 0, nil, []api.Shape{span(4, 5)}, []api.Shape{span(0, 3)})
	}
}

// TestLongest: the longest list is asked, though another has a lesser number: with three workers levels 0 and 1 have a task in
// lists, and so has level 4, which is of the same worker as level 1.
func TestLongest(t *testing.T) {
	l := fresh(t, single(3))
	for seq := range 33 {
		layDown(t, l, seq, "a")
		for range 3 * 4 { // as many steps as up to four tasks take: that of level 4 stays
			if len(l.Levels()[4]) < 2 {
				wantOneStep(t, l, 0)
			}
		}
	}
	wantLevels(t, l, 1, nil, nil, nil, nil, []api.Shape{span(0, 15), span(16, 31)})
	layDown(t, l, 33, texts("a", 4)...)
	wantLevels(t, l, 2, spans(32, 35), nil, nil, nil, []api.Shape{span(0, 15), span(16, 31)})
	wantSteps(t, l, 0, 1, 1, 2, 1, 1)
	layDown(t, l, 37, texts("a", 2)...)
	wantSteps(t, l, 0, 2)
	wantLevels(t, l, 3, spans(36, 37), []api.Shape{span(32, 33), span(34, 35)}, nil, nil, []api.Shape{span(0, 15), span(16, 31)})
	wantSteps(t, l, 2, 1, 1, 2) // the first one of worker 1
	wantLevels(t, l, 2, spans(36, 37), []api.Shape{span(32, 33), span(34, 35)}, nil, nil, nil, []api.Shape{span(0, 31)})
	wantSteps(t, l, 2, 1, 1, 2) // now both lists are alike: that of worker 0
	wantLevels(t, l, 1, nil, []api.Shape{span(32, 33), span(34, 35), span(36, 37)}, nil, nil, nil, []api.Shape{span(0, 31)})
}

func wantOneStep(t *testing.T, l *almanac.Log, worker int) {
	t.Helper()
	if n, f := l.Step(worker); n < 0 || n > 2 || f != api.OK {
		t.Fatalf("P12: Step(%d) = %d, %d", worker, n, f)
	}
}

// TestLastLevel: it is never due.
func TestLastLevel(t *testing.T) {
	c := single(2)
	l := fresh(t, c)
	for seq := range 32*5 + 1 {
		layDown(t, l, seq, "a")
		rest(t, l, c)
	}
	wantLevels(t, l, 0, nil, nil, nil, nil, nil, []api.Shape{span(0, 31), span(32, 63), span(64, 95), span(96, 127), span(128, 159)})
	if x, n, f := l.Query("a", 0, ever); len(x) != 161 || n != 5 || f != api.OK {
		t.Errorf("P17: Query tells %d entries of %d segments, %d", len(x), n, f)
	}
}

// TestOldOnesGo: with a merging, but not ahead of it; one that is Keep old stays.
func TestOldOnesGo(t *testing.T) {
	c := single(1)
	c.Memory = 2
	l := fresh(t, c)
	layDown(t, l, 0, "a")
	wantTick(t, l, 1, api.OK)
	layDown(t, l, 1, "a", "a", "a", "a")
	wantTick(t, l, c.Keep, api.OK)
	wantLevels(t, l, 1, []api.Shape{span(0, 1), span(2, 3)})
	wantSteps(t, l, 0, 1, 1)
	wantLevels(t, l, 1, []api.Shape{span(0, 1), span(2, 3)})
	wantQuery(t, l, "a", 0, 0, 1)
	wantSteps(t, l, 0, 2)
	wantLevels(t, l, 0, nil, []api.Shape{span(1, 3)})
	want := []api.Entry{entry(1, 1, "a"), entry(2, 1, "a"), entry(3, 1, "a"), entry(4, 1, "a")}
	wantQuery(t, l, "a", 0, ever, 1, want...)
	wantQuery(t, l, "a", 0, 0, 0)
}

// TestOldAtTheEnd: what counts is the clock when the task ends, not when it was laid, taken or begun.
func TestOldAtTheEnd(t *testing.T) {
	l := fresh(t, single(1))
	layDown(t, l, 0, "a")
	wantTick(t, l, 1, api.OK)
	layDown(t, l, 1, "a", "a")
	wantSteps(t, l, 0, 1, 1)
	wantTick(t, l, 10, api.OK)
	wantSteps(t, l, 0, 2)
	wantLevels(t, l, 0, nil, spans(1, 1))
}

// TestNoneIsLeft: then there is no segment, and the next task of the level is laid all the same.
func TestNoneIsLeft(t *testing.T) {
	l := fresh(t, single(1))
	layDown(t, l, 0, "a", "a", "a", "a")
	wantTick(t, l, 11, api.OK)
	layDown(t, l, 4, "a", "a")
	wantLevels(t, l, 1, spans(0, 4))
	wantSteps(t, l, 0, 1, 1, 2)
	wantLevels(t, l, 1, spans(2, 4))
	wantSteps(t, l, 0, 1, 1, 2, 0)
	wantLevels(t, l, 0, spans(4, 4))
	wantQuery(t, l, "a", 0, ever, 1, entry(4, 11, "a"), entry(5, 11, "a"))
}

// TestGoneOnesComeBack: what went with a merging is there behind New; the tasks are not (P8).
func TestGoneOnesComeBack(t *testing.T) {
	d, h := api.NewDisk()
	c := single(1)
	l := open(t, c, d)
	layDown(t, l, 0, "a", "a", "a")
	wantTick(t, l, 11, api.OK)
	layDown(t, l, 3, "a", "a")
	rest(t, l, c)
	wantLevels(t, l, 0, nil, spans(3, 3))
	layDown(t, l, 5, "a", "a", "a")
	wantSteps(t, l, 0, 1)
	d, h = h.Crash(0)
	for range 2 {
		l = open(t, c, d)
		wantLevels(t, l, 0, nil, nil, nil, nil, nil, []api.Shape{span(0, 7)})
		wantSteps(t, l, 0, 0)
		d, h = h.Crash(0)
	}
	c.Keep = 11
	l = open(t, c, d)
	var want []api.Entry
	for i, time := range []int{0, 0, 0, 11, 11, 11, 11, 11} {
		want = append(want, entry(i, time, "a"))
	}
	wantQuery(t, l, "a", 0, ever, 1, want...)
	layDown(t, l, 8, "a", "b", "b")
	wantLevels(t, l, 1, spans(8, 9), nil, nil, nil, nil, []api.Shape{span(0, 7)})
	rest(t, l, c)
	wantLevels(t, l, 0, nil, []api.Shape{span(8, 9)}, nil, nil, nil, []api.Shape{span(0, 7)})
	wantQuery(t, l, "a", 0, ever, 2, append(want, entry(8, 11, "a"))...)
}

// TestStepsOfALogThatIsDown: workers go on (P8).
func TestStepsOfALogThatIsDown(t *testing.T) {
	d, h := api.NewDisk()
	l := open(t, single(1), d)
	layDown(t, l, 0, all, all, all)
	h.Stop(0)
	wantNoAppend(t, l, all, api.ErrDown)
	wantLevels(t, l, 1, spans(0, 1))
	wantSteps(t, l, 0, 1, 1, 2, 0)
	wantLevels(t, l, 0, nil, []api.Shape{span(0, 1)})
	s := story{}.with(all).with(all).with(all)
	wantQuery(t, l, all, 0, ever, 1, s.entries...)
	wantLeft(t, "steps", h, s)
}

// TestNoTaskWithoutAnEntry: an Append that could not be made safe makes no segment, and so no task (P8).
func TestNoTaskWithoutAnEntry(t *testing.T) {
	d, h := api.NewDisk()
	l := open(t, single(1), d)
	layDown(t, l, 0, "a", "a")
	h.Stop(1)
	wantNoAppend(t, l, "a", api.ErrDown)
	wantLevels(t, l, 0, spans(0, 0))
	wantSteps(t, l, 0, 0)
}

// TestLevelsStayApart: what Levels told is new memory (P2).
func TestLevelsStayApart(t *testing.T) {
	l := fresh(t, single(1))
	layDown(t, l, 0, texts("a", 5)...)
	first, second := l.Levels(), l.Levels()
	for _, level := range second[:cap(second)] {
		level = level[:cap(level)]
		for i := range level {
			level[i] = span(70, 77)
		}
	}
	clear(second)
	rest(t, l, single(1))
	if !slices.Equal(first[0], spans(0, 3)) {
		t.Errorf("P2: what Levels told is now %v", first)
	}
	wantLevels(t, l, 0, nil, nil, []api.Shape{span(0, 3)})
}

// TestComesToRest: with every number of workers and every Fan, however much waits; then there is room again.
func TestComesToRest(t *testing.T) {
	for workers := 1; workers <= api.MaxWorkers; workers++ {
		for fan := 2; fan <= api.MaxFan; fan++ {
			c := single(workers)
			c.Fan, c.Back, c.Memory = fan, workers%3, 1+fan%2
			l := fresh(t, c)
			seq := 0
			for range 60 {
				for l.Pending() == 0 || len(l.Levels()[0]) < fan+c.Back {
					layDown(t, l, seq, "a")
					seq++
				}
				layDown(t, l, seq, texts("a", c.Memory-1)...)
				seq += c.Memory - 1
				wantNoAppend(t, l, "a", api.ErrBusy)
				rest(t, l, c)
				layDown(t, l, seq, "a")
				seq++
			}
			if x, _, f := l.Query("a", 0, ever); len(x) != seq || f != api.OK {
				t.Errorf("P17: %+v: Query tells %d of %d entries, %d", c, len(x), seq, f)
			}
		}
	}
}
