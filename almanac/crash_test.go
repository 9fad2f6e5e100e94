package almanac_test

import (
	"fmt"
	"slices"
	"strings"
	"testing"

	"almanac/almanac"
	"almanac/api"
)

// Every text of these tests has the word all: so one Query tells them all.
const all = "all"

// story: what a log must have: its entries, its clock.
type story struct {
	entries []api.Entry
	clock   int
}

// with: the story, and one text more.
func (s story) with(text string) story {
	s.entries = append(slices.Clip(s.entries), entry(len(s.entries), s.clock, text))
	return s
}

// later: the story, and a Tick more.
func (s story) later(n int) story {
	s.clock += n
	return s
}

// told: what a log that was just opened has. It lays a text down, since nothing else tells the clock and the next number.
func told(t *testing.T, c api.Config, d *api.Disk) story {
	t.Helper()
	l := open(t, c, d)
	x, n, f := l.Query(all, 0, ever)
	if want := min(1, len(x)); n != want || f != api.OK {
		t.Errorf("P8: behind New Query finds %d entries in %d segments, %d", len(x), n, f)
	}
	layDown(t, l, len(x), "probe")
	probe, _, _ := l.Query("probe", 0, ever)
	if len(probe) != 1 || probe[0].Seq != len(x) {
		t.Fatalf("P8: the next text is found as %#v", probe)
	}
	return story{x, probe[0].Time}
}

// left: what a log has that is opened on what a crash leaves. The disk that crashed is as it was.
func left(t *testing.T, h *api.Hand, keep int) story {
	t.Helper()
	d, _ := h.Crash(keep)
	return told(t, wide(), d)
}

func same(a, b story) bool { return a.clock == b.clock && slices.Equal(a.entries, b.entries) }

func wantLeft(t *testing.T, what string, h *api.Hand, want story) {
	t.Helper()
	for _, keep := range []int{0, 1, 1000, -1} {
		if got := left(t, h, keep); !same(got, want) {
			t.Errorf("P8: %s: a crash with keep %d leaves %#v, want %#v", what, keep, got, want)
		}
	}
}

// begun: a log on a new disk, with some texts and Ticks.
func begun(t *testing.T) (*almanac.Log, *api.Hand, story) {
	t.Helper()
	d, h := api.NewDisk()
	l := open(t, wide(), d)
	var s story
	for i, text := range []string{"all", "", "All b", "all\x00\xff\n"} {
		if i == 1 || i == 3 {
			wantTick(t, l, 300*i, api.OK)
			s = s.later(300 * i)
		}
		text = strings.TrimSpace(all + " " + text)
		layDown(t, l, i, text)
		s = s.with(text)
	}
	return l, h, s
}

// TestSafeAheadOfTheAnswer: what was answered is there behind a crash, whatever it keeps.
func TestSafeAheadOfTheAnswer(t *testing.T) {
	d, h := api.NewDisk()
	l := open(t, wide(), d)
	var s story
	wantLeft(t, "New", h, s)
	for i := range 40 {
		if i%3 == 1 {
			wantTick(t, l, 1+i*25, api.OK)
			s = s.later(1 + i*25)
			wantLeft(t, "Tick", h, s)
		}
		text := "all " + strings.Repeat("x", i)
		layDown(t, l, i, text)
		s = s.with(text)
		wantLeft(t, "Append", h, s)
	}
}

// TestTextsComeBack: texts of every length, and of every byte.
func TestTextsComeBack(t *testing.T) {
	d, h := api.NewDisk()
	var s story
	put := func(l *almanac.Log, text string) {
		layDown(t, l, len(s.entries), text)
		s = s.with(text)
	}
	l := open(t, wide(), d)
	for n := range api.MaxText - len(all) + 1 {
		put(l, all+strings.Repeat("-", n))
	}
	d, h = h.Crash(0)
	for i := range 256 {
		if i%32 == 0 {
			l = open(t, wide(), d)
		}
		put(l, string([]byte{byte(i), ' ', 'a', 'l', 'l', ' ', byte(i)}))
	}
	wantLeft(t, "texts of every byte", h, s)
}

// TestTextsWithoutWordsCount: they are told by no Query, but have a number.
func TestTextsWithoutWordsCount(t *testing.T) {
	d, h := api.NewDisk()
	l := open(t, small(), d)
	layDown(t, l, 0, "", "-", "a", "")
	d, _ = h.Crash(0)
	l = open(t, small(), d)
	wantQuery(t, l, "a", 0, ever, 1, entry(2, 0, "a"))
	layDown(t, l, 4, "a")
	wantQuery(t, l, "a", 0, ever, 1, entry(2, 0, "a"), entry(4, 0, "a"))
}

// TestNewAgain: on the same disk, without a crash, again and again; the clock and the entries stay, the memory and the levels
// are empty but for one segment in the last.
func TestNewAgain(t *testing.T) {
	d, _ := api.NewDisk()
	c := small()
	room := c.Memory * (c.Fan + c.Back + 1)
	var want []api.Entry
	for round := range 5 {
		l := open(t, c, d)
		wantQuery(t, l, "a", 0, ever, min(1, round), want...)
		for range room { // as much as there is room for in a log that is empty but for its last level
			layDown(t, l, len(want), "a")
			want = append(want, entry(len(want), round, "a"))
		}
		wantNoAppend(t, l, "a", api.ErrBusy)
		wantTick(t, l, 1, api.OK)
		wantQuery(t, l, "a", 0, ever, min(1, round)+c.Fan+c.Back, want...)
	}
}

// TestClockAlone: a log in which nothing was laid down has its clock.
func TestClockAlone(t *testing.T) {
	d, h := api.NewDisk()
	l := open(t, wide(), d)
	wantTick(t, l, 1, api.OK)
	wantTick(t, l, 1000, api.OK)
	wantLeft(t, "Ticks", h, story{clock: 1001})
}

// TestAnotherConfiguration: whatever the configuration is, the log has the same.
func TestAnotherConfiguration(t *testing.T) {
	_, h, s := begun(t)
	for _, set := range setters {
		for _, n := range []int{set.least, set.greatest} {
			c := wide()
			set.set(&c, n)
			if set.name == "Keep" {
				c.Keep = max(n, s.clock)
			}
			d, _ := h.Crash(0)
			if got := told(t, c, d); !same(got, s) {
				t.Errorf("P8: with %s %d there is %#v, want %#v", set.name, n, got, s)
			}
		}
	}
}

// TestOldEntriesComeBack: what is old with one Keep is told again with a greater one; the segment has it all the same.
func TestOldEntriesComeBack(t *testing.T) {
	d, h := api.NewDisk()
	c := small()
	l := open(t, c, d)
	layDown(t, l, 0, "a", "a", "a")
	wantTick(t, l, 11, api.OK)
	layDown(t, l, 3, "a")
	wantQuery(t, l, "a", 0, ever, 1, entry(3, 11, "a"))
	d, h = h.Crash(0)
	wantQuery(t, open(t, c, d), "a", 0, ever, 1, entry(3, 11, "a"))
	d, _ = h.Crash(0)
	c.Keep = 11
	wantQuery(t, open(t, c, d), "a", 0, ever, 1, entry(0, 0, "a"), entry(1, 0, "a"), entry(2, 0, "a"), entry(3, 11, "a"))
}

// TestNewOnAStoppedDisk: with files on it or without.
func TestNewOnAStoppedDisk(t *testing.T) {
	_, h, s := begun(t)
	full, fullHand := h.Crash(0)
	empty, emptyHand := api.NewDisk()
	for d, h := range map[*api.Disk]*api.Hand{full: fullHand, empty: emptyHand} {
		h.Stop(0)
		if l, f := almanac.New(wide(), d); l != nil || f != api.ErrDown {
			t.Errorf("P8: New on a disk that is stopped: %t, %d", l != nil, f)
		}
	}
	wantLeft(t, "a refused New", fullHand, s)
	wantLeft(t, "a refused New", emptyHand, story{})
}

// wantDown: Append and Tick are ErrDown, whatever else applies (but that ErrArg comes first), and Query goes on.
func wantDown(t *testing.T, l *almanac.Log, s story) {
	t.Helper()
	for range 2 {
		wantNoAppend(t, l, "all", api.ErrDown)
		wantNoAppend(t, l, strings.Repeat("x", api.MaxText+1), api.ErrDown)
		wantTick(t, l, 1, api.ErrDown)
		wantTick(t, l, 0, api.ErrArg)
		wantTick(t, l, api.MaxTick+1, api.ErrArg)
		if x, _, f := l.Query(all, 0, ever); !slices.Equal(x, s.entries) || f != api.OK {
			t.Errorf("P8: a log that is down tells %#v, %d, want %#v", x, f, s.entries)
		}
	}
}

// stopWithin lets a call be done on disks that stop within it at every step, until one stops so late that the call does not
// notice. Then it is safe; else it is there whole, or not at all, and stays so.
func stopWithin(t *testing.T, what string, call func(l *almanac.Log) api.Errno, after func(s story) story) {
	t.Helper()
	for steps := 0; ; steps++ {
		l, h, s := begun(t)
		h.Stop(steps)
		f := call(l)
		if f == api.OK {
			wantLeft(t, what, h, after(s))
			return
		}
		if f != api.ErrDown || steps > 50 {
			t.Fatalf("P8: %s on a disk that stops at step %d: %d", what, steps, f)
		}
		wantDown(t, l, s)
		for keep := range 100 {
			wantEither(t, fmt.Sprint(what, " step ", steps, " keep ", keep), h, keep, s, after(s))
		}
	}
}

// wantEither: a crash leaves the one story or the other; that stays so behind further crashes, and goes on.
func wantEither(t *testing.T, what string, h *api.Hand, keep int, a, b story) {
	t.Helper()
	d, h := h.Crash(keep)
	l := open(t, wide(), d)
	s := a
	if got := left(t, h, 0); same(got, b) {
		s = b
	} else if !same(got, a) {
		t.Errorf("P8: %s: %#v, want %#v or %#v", what, got, a, b)
		return
	}
	wantLeft(t, what+", again", h, s)
	layDown(t, l, len(s.entries), "all is on")
	wantTick(t, l, 5, api.OK)
	s = s.with("all is on").later(5)
	wantLeft(t, what+", and on", h, s)
	layDown(t, l, len(s.entries), all)
	wantLeft(t, what+", and on again", h, s.with(all))
}

func TestStopWithinAppend(t *testing.T) {
	for _, text := range []string{all, "all that stands here", all + strings.Repeat("\x00", api.MaxText-len(all)), all + strings.Repeat("\x01", 20)} {
		stopWithin(t, "Append", func(l *almanac.Log) api.Errno {
			n, f := l.Append(text)
			if f != api.OK && n != 0 {
				t.Errorf("P8: Append on a disk that stops = %d, %d", n, f)
			}
			return f
		}, func(s story) story { return s.with(text) })
	}
}

func TestStopWithinTick(t *testing.T) {
	for _, n := range []int{1, 9, 10, 255, 256, 1000} {
		stopWithin(t, "Tick", func(l *almanac.Log) api.Errno { return l.Tick(n) }, func(s story) story { return s.later(n) })
	}
}

// TestDownWhileBusy: ErrDown is told ahead of ErrBusy; and a text whose coming would have made a segment makes none, if it
// could not be made safe.
func TestDownWhileBusy(t *testing.T) {
	c := small()
	room := c.Memory * (c.Fan + c.Back + 1)
	d, h := api.NewDisk()
	l := open(t, c, d)
	layDown(t, l, 0, slices.Repeat([]string{all}, room)...)
	wantNoAppend(t, l, all, api.ErrBusy)
	h.Stop(0)
	wantNoAppend(t, l, all, api.ErrDown)
	for steps := 0; ; steps++ {
		d, h = api.NewDisk()
		l = open(t, c, d)
		layDown(t, l, 0, all, all)
		h.Stop(steps)
		if _, f := l.Append(all); f == api.OK {
			break
		} else if f != api.ErrDown || steps > 50 {
			t.Fatalf("P8: Append on a disk that stops at step %d: %d", steps, f)
		}
		wantQuery(t, l, all, 0, ever, 0, entry(0, 0, all), entry(1, 0, all))
		wantNoAppend(t, l, all, api.ErrDown)
	}
	wantQuery(t, l, all, 0, ever, 1, entry(0, 0, all), entry(1, 0, all), entry(2, 0, all))
}

// TestDownGoesOnInQueries: on a disk that stopped between the calls a log is down, too.
func TestDownGoesOnInQueries(t *testing.T) {
	l, h, s := begun(t)
	h.Stop(0)
	wantDown(t, l, s)
	h.Stop(-1) // a disk that is stopped stays so
	wantDown(t, l, s)
	wantLeft(t, "a stop", h, s)
}

// TestStopWithinNew: New is ErrDown on a disk that stops within it, at whichever step, and nothing is lost, however often that
// happens, one crash behind the other.
func TestStopWithinNew(t *testing.T) {
	for keep := range 40 {
		_, h, s := begun(t)
		d, h := h.Crash(keep)
		for steps := 0; ; steps++ {
			h.Stop(steps)
			l, f := almanac.New(wide(), d)
			if f == api.OK {
				if l == nil || steps == 0 {
					t.Errorf("P8: New on a disk that stops at step %d: %t, %d", steps, l != nil, f)
				}
				break
			}
			if l != nil || f != api.ErrDown || !d.Stopped() || steps > 50 {
				t.Fatalf("P8: New on a disk that stops at step %d: %t, %d", steps, l != nil, f)
			}
			wantLeft(t, "a stop within New", h, s)
			d, h = h.Crash(keep)
		}
		wantLeft(t, "New at last", h, s)
	}
}

// TestStopWithinNewBehindATornCall: the first bytes of a call that could not be made safe do no harm to a New that stops.
func TestStopWithinNewBehindATornCall(t *testing.T) {
	for keep := range 40 {
		for steps := range 8 {
			l, torn, a := begun(t)
			torn.Stop(1)
			l.Append("all of this")
			d, h := torn.Crash(keep)
			s := left(t, h, 0)
			if b := a.with("all of this"); !same(s, a) && !same(s, b) {
				t.Errorf("P8: a crash leaves %#v", s)
			}
			for range 3 {
				h.Stop(steps)
				almanac.New(small(), d)
				wantLeft(t, "a stop within New", h, s)
				d, h = h.Crash(keep)
			}
			l = open(t, wide(), d)
			layDown(t, l, len(s.entries), "all again")
			wantLeft(t, "New at last", h, s.with("all again"))
		}
	}
}
