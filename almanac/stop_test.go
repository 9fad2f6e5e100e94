package almanac_test

import (
	"fmt"
	"math/rand/v2"
	"slices"
	"strings"
	"testing"

	"almanac/almanac"
	"almanac/api"
)

// history: calls that lay something down, and what each makes of a story.
var history = []struct {
	call  func(l *almanac.Log) api.Errno
	after func(s story) story
}{
	{appending("all b"), func(s story) story { return s.with("all b") }},
	{ticking(300), func(s story) story { return s.later(300) }},
	{appending("all\x01\x011"), func(s story) story { return s.with("all\x01\x011") }}, // its end is what a record may look like
	{ticking(7), func(s story) story { return s.later(7) }},
}

func appending(text string) func(l *almanac.Log) api.Errno {
	return func(l *almanac.Log) api.Errno { _, f := l.Append(text); return f }
}

func ticking(n int) func(l *almanac.Log) api.Errno {
	return func(l *almanac.Log) api.Errno { return l.Tick(n) }
}

// tell: New and the history, on a disk that may stop: the story that must be there then, the one that may be there in its
// place, and whether all was done.
func tell(t *testing.T, d *api.Disk, s story) (must, may story, done bool) {
	t.Helper()
	l, f := almanac.New(wide(), d)
	if f != api.OK {
		if l != nil || f != api.ErrDown || !d.Stopped() {
			t.Fatalf("P8: New: %t, %d, on a disk that is stopped: %t", l != nil, f, d.Stopped())
		}
		return s, s, false
	}
	for i, h := range history {
		if f := h.call(l); f == api.ErrDown && d.Stopped() {
			wantDown(t, l, s)
			return s, h.after(s), false
		} else if f != api.OK {
			t.Fatalf("P8: call %d: %d, on a disk that is stopped: %t", i, f, d.Stopped())
		}
		s = h.after(s)
	}
	return s, s, true
}

// outlive: disks like this one, which has a story, stop at each step of New and the history, and crash with each keep; on what
// that leaves it begins again, so many rounds.
func outlive(t *testing.T, what string, h *api.Hand, s story, rounds int) {
	t.Helper()
	for steps := 0; ; steps++ {
		d, like := h.Crash(0) // ahead of it nothing was left that is not safe: so it loses nothing
		like.Stop(steps)
		must, may, done := tell(t, d, s)
		for _, keep := range []int{0, 1, 2, 3, 4, 5, 6, 7, 8, 10, 1000} {
			what := fmt.Sprint(what, ", stop at ", steps, " keep ", keep)
			_, behind := like.Crash(keep)
			got := left(t, behind, 0)
			if !same(got, must) && !same(got, may) {
				t.Fatalf("P8: %s: %#v, want %#v or %#v", what, got, must, may)
			}
			if rounds > 1 {
				outlive(t, what, behind, got, rounds-1)
			}
		}
		if done {
			return
		}
		if steps > 100 {
			t.Fatalf("P8: %s: with %d steps the history is not done", what, steps)
		}
	}
}

// TestAgainAndAgain: a disk that is new, and one on which a log was.
func TestAgainAndAgain(t *testing.T) {
	_, h := api.NewDisk()
	outlive(t, "a new disk", h, story{}, 2)
	_, h, s := begun(t)
	_, h = h.Crash(0)
	outlive(t, "a disk with a log", h, s, 2)
}

// TestManyCrashes: a long way from crash to crash, each time with another stop and another keep.
func TestManyCrashes(t *testing.T) {
	for seed := range uint64(40) {
		r := rand.New(rand.NewPCG(seed, 4))
		d, h := api.NewDisk()
		var s story
		for round := range 60 {
			h.Stop(r.IntN(14))
			must, may, _ := tell(t, d, s)
			d, h = h.Crash(r.IntN(14))
			if s = left(t, h, 0); !same(s, must) && !same(s, may) {
				t.Fatalf("P8: seed %d, crash %d: %#v, want %#v or %#v", seed, round, s, must, may)
			}
		}
	}
}

// TestEachKeepOfALongText: a record that is cut at any byte is not there at all; one that is kept whole is there.
func TestEachKeepOfALongText(t *testing.T) {
	text := "all" + strings.Repeat(" \x00", (api.MaxText-3)/2)
	l, h, s := begun(t)
	h.Stop(1)
	wantNoAppend(t, l, text, api.ErrDown)
	whole := false
	for keep := range 2 * api.MaxText {
		got := left(t, h, keep)
		switch {
		case same(got, s.with(text)):
			whole = true
		case !same(got, s) || whole:
			t.Errorf("P8: of a text that is whole with less, keep %d leaves %#v", keep, got)
		}
	}
}

// stop lets the disk stop, now or soon.
func (p *pair) stop() {
	steps := p.r.IntN(8)
	p.call("Stop(%d)", steps)
	p.hand.Stop(steps)
}

// crash: what is left is another disk.
func (p *pair) crash() {
	keep := p.r.IntN(100)
	if p.r.IntN(2) == 0 {
		keep = p.r.IntN(6)
	}
	p.call("Crash(%d)", keep)
	p.disk, p.hand = p.hand.Crash(keep)
}

// stopNew: New on disks that stop within it or soon behind it, and crash.
func (p *pair) stopNew(t *testing.T) {
	for p.r.IntN(3) > 0 {
		p.stop()
		p.call("New")
		if l, f := almanac.New(someConfig(p.r), p.disk); (l != nil) != (f == api.OK) || f != api.OK && (f != api.ErrDown || !p.disk.Stopped()) {
			p.fail(t, "P8, New", f, api.ErrDown)
		}
		p.crash()
	}
}

// settle: which of the stories is on the disk? From then on it is the only one.
func (p *pair) settle(t *testing.T) {
	d, _ := p.hand.Crash(0)
	l := open(t, wide(), d)
	n, f := l.Append("probe")
	probe, _, _ := l.Query("probe", 0, ever)
	if f != api.OK || len(probe) != 1 || probe[0].Seq != n {
		p.fail(t, "P8, a text behind New", probe, n)
	}
	is := func(s story) bool { return n == len(s.entries) && probe[0].Time == s.clock }
	if is(p.may) {
		p.model.all, p.model.clock = p.may.entries, p.may.clock
	} else if s := p.model.story(); !is(s) {
		p.fail(t, "P8, entries and clock", []int{n, probe[0].Time}, [][]int{{len(s.entries), s.clock}, {len(p.may.entries), p.may.clock}})
	}
	p.may = p.model.story()
}

// queryAll holds every word and every time against the model, behind New: nothing else tells that the texts are as they were.
func (p *pair) queryAll(t *testing.T) {
	for _, word := range p.words() {
		x, n, _ := p.log.Query(word, 0, ever)
		if x2, n2 := p.model.query(word, 0, ever); !slices.Equal(x, x2) || n != n2 {
			p.fail(t, "P8, P17: "+word, x, x2)
		}
	}
}

// TestByChanceOnDisksThatStop holds logs against the model, call by call, those that are down too; and what crashes leave.
func TestByChanceOnDisksThatStop(t *testing.T) {
	for seed := range uint64(80) {
		p := newPair(t, rand.New(rand.NewPCG(seed, 12)))
		for range 800 {
			switch n := p.r.IntN(1000); {
			case n < 10:
				p.stop()
			case n < 15, p.disk.Stopped() && n < 60:
				p.stopNew(t)
				p.new(t)
				p.queryAll(t)
			default:
				p.someCall(t)
			}
			p.look(t)
		}
		rest(t, p.log, p.model.Config)
	}
}
