package almanac_test

import (
	"math"
	"slices"
	"strings"
	"testing"

	"almanac/almanac"
	"almanac/api"
)

// ever: a time behind all others.
const ever = api.MaxNumber

// small: a configuration with which little is enough for everything to happen.
func small() api.Config {
	return api.Config{Memory: 2, Fan: 2, Back: 1, Workers: 1, Keep: 10, Batch: 2}
}

// wide: one with which nothing grows old, and much has room.
func wide() api.Config {
	return api.Config{Memory: api.MaxMemory, Fan: api.MaxFan, Back: api.MaxBack, Workers: 1, Keep: api.MaxKeep, Batch: 1}
}

func open(t *testing.T, c api.Config, d *api.Disk) *almanac.Log {
	t.Helper()
	l, f := almanac.New(c, d)
	if l == nil || f != api.OK {
		t.Fatalf("P8: New(%+v) = %v, %d", c, l != nil, f)
	}
	return l
}

// fresh: a log on a new disk.
func fresh(t *testing.T, c api.Config) *almanac.Log {
	t.Helper()
	d, _ := api.NewDisk()
	return open(t, c, d)
}

// layDown lays texts down, the first of which must get the number seq.
func layDown(t *testing.T, l *almanac.Log, seq int, texts ...string) {
	t.Helper()
	for i, text := range texts {
		if n, f := l.Append(text); n != seq+i || f != api.OK {
			t.Fatalf("P9: Append(%q) = %d, %d, want %d, 0", text, n, f, seq+i)
		}
	}
}

func wantNoAppend(t *testing.T, l *almanac.Log, text string, want api.Errno) {
	t.Helper()
	if n, f := l.Append(text); n != 0 || f != want {
		t.Errorf("P9: Append(%.100q) = %d, %d, want 0, %d", text, n, f, want)
	}
}

func wantTick(t *testing.T, l *almanac.Log, n int, want api.Errno) {
	t.Helper()
	if f := l.Tick(n); f != want {
		t.Errorf("P10: Tick(%d) = %d, want %d", n, f, want)
	}
}

func wantQuery(t *testing.T, l *almanac.Log, word string, from, to int, segments int, want ...api.Entry) {
	t.Helper()
	x, n, f := l.Query(word, from, to)
	if !slices.Equal(x, want) || n != segments || f != api.OK {
		t.Errorf("P11: Query(%q, %d, %d) = %#v, %d, %d, want %#v, %d, 0", word, from, to, x, n, f, want, segments)
	}
}

// setters: of each field of a configuration how it is set, and its bounds.
var setters = []struct {
	name            string
	set             func(c *api.Config, n int)
	least, greatest int
}{
	{"Memory", func(c *api.Config, n int) { c.Memory = n }, 1, 8},
	{"Fan", func(c *api.Config, n int) { c.Fan = n }, 2, 4},
	{"Back", func(c *api.Config, n int) { c.Back = n }, 0, 4},
	{"Workers", func(c *api.Config, n int) { c.Workers = n }, 1, 4},
	{"Keep", func(c *api.Config, n int) { c.Keep = n }, 1, 1000000},
	{"Batch", func(c *api.Config, n int) { c.Batch = n }, 1, 8},
}

func TestConfigurationsThatMayBe(t *testing.T) {
	for _, s := range setters {
		for _, n := range []int{s.least, s.least + 1, s.greatest - 1, s.greatest} {
			c := small()
			s.set(&c, n)
			layDown(t, fresh(t, c), 0, "a")
		}
	}
}

// TestConfigurationsThatMayNotBe: they are ErrArg, ahead of ErrDown, and the log that is on the disk does not notice (P1, P8).
func TestConfigurationsThatMayNotBe(t *testing.T) {
	d, _ := api.NewDisk()
	l := open(t, small(), d)
	layDown(t, l, 0, "a")
	stopped, h := api.NewDisk()
	h.Stop(0)
	refuse := func(what string, n int, c api.Config, d *api.Disk) {
		t.Helper()
		if l, f := almanac.New(c, d); l != nil || f != api.ErrArg {
			t.Errorf("P8: New with %s %d: %t, %d", what, n, l != nil, f)
		}
	}
	for _, s := range setters {
		for _, n := range []int{math.MinInt, -1 << 32, -s.greatest, s.least - 1, s.greatest + 1, s.least + 1<<32, math.MaxInt} {
			c := small()
			s.set(&c, n)
			refuse(s.name, n, c, d)
			refuse(s.name, n, c, stopped)
			refuse(s.name, n, c, nil)
		}
	}
	refuse("nothing", 0, api.Config{}, d)
	refuse("no disk", 0, small(), nil)
	layDown(t, l, 1, "a")
	wantQuery(t, l, "a", 0, ever, 0, entry(0, 0, "a"), entry(1, 0, "a"))
}

func TestNewLogHasNothing(t *testing.T) {
	l := fresh(t, small())
	wantQuery(t, l, "a", math.MinInt, math.MaxInt, 0)
	layDown(t, l, 0, "a")
	wantQuery(t, l, "a", 0, 0, 0, entry(0, 0, "a"))
}

// TestLogsStayApart: logs on two disks have nothing to do with one another (P2).
func TestLogsStayApart(t *testing.T) {
	a, b := fresh(t, small()), fresh(t, small())
	layDown(t, a, 0, "x one", "x", "x")
	wantTick(t, a, 7, api.OK)
	wantQuery(t, b, "x", 0, ever, 0)
	layDown(t, b, 0, "x two")
	wantQuery(t, b, "x", 0, ever, 0, entry(0, 0, "x two"))
	wantQuery(t, a, "x", 0, ever, 1, entry(0, 0, "x one"), entry(1, 0, "x"), entry(2, 0, "x"))
}

func TestTextsThatAreTooLong(t *testing.T) {
	l := fresh(t, small())
	for _, n := range []int{api.MaxText + 1, api.MaxText + 2, 255, 256, 256 + 1, 1 << 20} {
		wantNoAppend(t, l, strings.Repeat("x", n), api.ErrLong)
		wantNoAppend(t, l, strings.Repeat(" ", n), api.ErrLong)
	}
	wantNoAppend(t, l, strings.Repeat("é", api.MaxText/2)+"x", api.ErrLong) // bytes are counted, not letters
	longest := strings.Repeat("x", api.MaxText)
	layDown(t, l, 0, longest, strings.Repeat("é", api.MaxText/2), "")
	wantQuery(t, l, longest, 0, ever, 1, entry(0, 0, longest))
}

// TestBusy: with every configuration as many texts are laid down as there is room for, and then none; one that is too long is
// told first.
func TestBusy(t *testing.T) {
	for memory := 1; memory <= api.MaxMemory; memory++ {
		for fan := 2; fan <= api.MaxFan; fan++ {
			for back := 0; back <= api.MaxBack; back++ {
				c := small()
				c.Memory, c.Fan, c.Back = memory, fan, back
				l := fresh(t, c)
				room := memory * (fan + back + 1)
				layDown(t, l, 0, slices.Repeat([]string{"a"}, room)...)
				for range 2 {
					wantNoAppend(t, l, "a", api.ErrBusy)
					wantNoAppend(t, l, "", api.ErrBusy)
					wantNoAppend(t, l, strings.Repeat("a", api.MaxText+1), api.ErrLong)
				}
				wantTick(t, l, 1, api.OK)
				wantNoAppend(t, l, "a", api.ErrBusy)
				if x, n, f := l.Query("a", 0, ever); len(x) != room || n != fan+back || f != api.OK {
					t.Errorf("P9: %+v: behind ErrBusy Query tells %d of %d segments, %d", c, len(x), n, f)
				}
			}
		}
	}
}

// TestMemoryBecomesASegment: not when it is full, but with the next entry.
func TestMemoryBecomesASegment(t *testing.T) {
	c := small()
	c.Memory = 3
	l := fresh(t, c)
	var all []api.Entry
	for i, segments := range []int{0, 0, 0, 1, 1, 1, 2, 2, 2, 3, 3, 3} {
		layDown(t, l, i, "a")
		all = append(all, entry(i, 0, "a"))
		wantQuery(t, l, "a", 0, 0, segments, all...)
	}
	wantNoAppend(t, l, "a", api.ErrBusy)
}

func TestTick(t *testing.T) {
	l := fresh(t, wide())
	for _, n := range []int{math.MinInt, -api.MaxNumber, -1000, -1, 0, api.MaxTick + 1, 1 << 32, 1<<32 + 1, api.MaxNumber, math.MaxInt} {
		wantTick(t, l, n, api.ErrArg)
	}
	layDown(t, l, 0, "a")
	wantTick(t, l, 1, api.OK)
	layDown(t, l, 1, "a")
	wantTick(t, l, api.MaxTick, api.OK)
	wantTick(t, l, api.MaxTick+1, api.ErrArg)
	layDown(t, l, 2, "a", "a")
	wantTick(t, l, 999, api.OK)
	wantTick(t, l, 2, api.OK)
	layDown(t, l, 4, "a")
	wantQuery(t, l, "a", 0, ever, 0, entry(0, 0, "a"), entry(1, 1, "a"), entry(2, 1001, "a"), entry(3, 1001, "a"), entry(4, 2002, "a"))
}

// TestOldEntries: an entry is told up to Keep, and no more one behind it, in memory and in segments.
func TestOldEntries(t *testing.T) {
	for _, keep := range []int{1, 2, 3, 1000, 1001} {
		c := small()
		c.Keep = keep
		l := fresh(t, c)
		layDown(t, l, 0, "a", "b", "a")
		goOn(t, l, keep)
		wantQuery(t, l, "a", 0, ever, 1, entry(0, 0, "a"), entry(2, 0, "a"))
		wantTick(t, l, 1, api.OK)
		wantQuery(t, l, "a", 0, ever, 1)
		wantQuery(t, l, "a", math.MinInt, math.MaxInt, 1)
		layDown(t, l, 3, "a")
		wantQuery(t, l, "a", 0, ever, 1, entry(3, keep+1, "a"))
	}
}

// goOn lets the clock go on by n, however much that is.
func goOn(t *testing.T, l *almanac.Log, n int) {
	t.Helper()
	for ; n > 0; n -= api.MaxTick {
		wantTick(t, l, min(n, api.MaxTick), api.OK)
	}
}

// TestGreatestKeep: with it an entry is told for a very long time.
func TestGreatestKeep(t *testing.T) {
	l := fresh(t, wide())
	layDown(t, l, 0, "a")
	goOn(t, l, api.MaxKeep)
	wantQuery(t, l, "a", 0, ever, 0, entry(0, 0, "a"))
	wantTick(t, l, 1, api.OK)
	wantQuery(t, l, "a", 0, ever, 0)
}

func TestKeepOfTheDocument(t *testing.T) {
	c := small()
	c.Keep = 3
	l := fresh(t, c)
	layDown(t, l, 0, "a", "b")
	wantTick(t, l, 4, api.OK)
	wantQuery(t, l, "a", 0, 9, 0)
}

func TestWordsThatAreNone(t *testing.T) {
	l := fresh(t, small())
	layDown(t, l, 0, "a b", "A", "", "é")
	long := strings.Repeat("a", api.MaxText+1)
	for _, w := range []string{"", " ", "A", "aB", "a b", "a ", " a", "-", "a-b", "é", "aé", "a\x00", "\xff", "_", "/", ":", "@", "[", "`", "{", long, strings.Repeat(long, 10000)} {
		for _, times := range [][2]int{{0, ever}, {ever, 0}, {math.MinInt, math.MaxInt}} {
			if x, n, f := l.Query(w, times[0], times[1]); x != nil || n != 0 || f != api.ErrWord {
				t.Errorf("P11: Query(%.100q) = %#v, %d, %d", w, x, n, f)
			}
		}
	}
	for _, w := range []string{"0", "9", "z", "a1", "1a", "00", long[1:]} {
		wantQuery(t, l, w, 0, ever, 0)
	}
	wantQuery(t, l, "a", 0, ever, 1, entry(0, 0, "a b"), entry(1, 0, "A"))
}

// TestWordsOfEntries: an entry has its words, not their parts, however they are written.
func TestWordsOfEntries(t *testing.T) {
	l := fresh(t, wide())
	texts := []string{"Disk 2 is FULL: disk-2", "disks", "adisk", "DISK\x00FULL", "2 2 2", "full"}
	layDown(t, l, 0, texts...)
	for word, want := range map[string][]int{"disk": {0, 3}, "full": {0, 3, 5}, "2": {0, 4}, "is": {0}, "disks": {1}, "adisk": {2}, "dis": nil, "diskfull": nil, "22": nil} {
		var l2 []api.Entry
		for _, i := range want {
			l2 = append(l2, entry(i, 0, texts[i]))
		}
		wantQuery(t, l, word, 0, ever, 0, l2...)
	}
}

// timed: a log with the segments of times 0 0, 3 5, 5 9, of which the second has no b, and with 9 10 in memory.
func timed(t *testing.T) *almanac.Log {
	t.Helper()
	l := fresh(t, api.Config{Memory: 2, Fan: 4, Back: 4, Workers: 1, Keep: 1000, Batch: 1})
	layDown(t, l, 0, "a b", "a")
	wantTick(t, l, 3, api.OK)
	layDown(t, l, 2, "a")
	wantTick(t, l, 2, api.OK)
	layDown(t, l, 3, "a", "b a")
	wantTick(t, l, 4, api.OK)
	layDown(t, l, 5, "-", "b")
	wantTick(t, l, 1, api.OK)
	layDown(t, l, 7, "a")
	return l
}

// TestTimes: both ends are told, and a segment counts if it has the word and its times meet those that are asked for.
func TestTimes(t *testing.T) {
	l := timed(t)
	e0, e1, e2, e3, e4, e6, e7 := entry(0, 0, "a b"), entry(1, 0, "a"), entry(2, 3, "a"), entry(3, 5, "a"), entry(4, 5, "b a"), entry(6, 9, "b"), entry(7, 10, "a")
	wantQuery(t, l, "a", 0, ever, 3, e0, e1, e2, e3, e4, e7)
	wantQuery(t, l, "a", math.MinInt, math.MaxInt, 3, e0, e1, e2, e3, e4, e7)
	wantQuery(t, l, "a", 0, 0, 1, e0, e1)
	wantQuery(t, l, "a", -5, -1, 0)
	wantQuery(t, l, "a", 1, 2, 0)
	wantQuery(t, l, "a", 0, 2, 1, e0, e1)
	wantQuery(t, l, "a", 0, 3, 2, e0, e1, e2)
	wantQuery(t, l, "a", 1, 3, 1, e2)
	wantQuery(t, l, "a", 4, 4, 1)
	wantQuery(t, l, "a", 4, 5, 2, e3, e4)
	wantQuery(t, l, "a", 5, 5, 2, e3, e4)
	wantQuery(t, l, "a", 6, 8, 1)
	wantQuery(t, l, "a", 9, 9, 1)
	wantQuery(t, l, "a", 10, 10, 0, e7)
	wantQuery(t, l, "a", 11, math.MaxInt, 0)
	wantQuery(t, l, "b", 0, ever, 2, e0, e4, e6)
	wantQuery(t, l, "b", 3, 4, 0)
	wantQuery(t, l, "b", 5, 9, 1, e4, e6)
	wantQuery(t, l, "b", math.MinInt, 0, 1, e0)
	wantQuery(t, l, "c", 0, ever, 0)
}

// TestTimesThatAreTurned: no entry has a time from a greater one to a lesser; but the rule of the count stays what it is.
func TestTimesThatAreTurned(t *testing.T) {
	l := timed(t)
	wantQuery(t, l, "a", 5, 3, 1)
	wantQuery(t, l, "a", 9, 5, 1)
	wantQuery(t, l, "a", 4, 3, 1)
	wantQuery(t, l, "a", 1, 0, 0)
	wantQuery(t, l, "a", math.MaxInt, math.MinInt, 0)
	wantQuery(t, l, "b", 10, 9, 0)
}

// TestAnswersStayApart: what Query told is new memory (P2).
func TestAnswersStayApart(t *testing.T) {
	l := fresh(t, small())
	layDown(t, l, 0, "a", "a", "a")
	want := []api.Entry{entry(0, 0, "a"), entry(1, 0, "a"), entry(2, 0, "a")}
	first, _, _ := l.Query("a", 0, ever)
	second, _, _ := l.Query("a", 0, ever)
	second = second[:cap(second)]
	for i := range second {
		second[i] = entry(77, 77, "mine")
	}
	layDown(t, l, 3, "a", "b")
	if !slices.Equal(first, want) {
		t.Errorf("P2: what Query told is now %#v", first)
	}
	wantQuery(t, l, "a", 0, ever, 2, append(want, entry(3, 0, "a"))...)
}
