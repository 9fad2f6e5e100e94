package journal_test

import (
	"slices"
	"strings"
	"testing"

	"almanac/api"
	"almanac/journal"
)

func open(t *testing.T, d *api.Disk) (*journal.Journal, []api.Entry) {
	t.Helper()
	j, l, ok := journal.Open(d)
	if j == nil || !ok {
		t.Fatalf("P8: Open: %t", ok)
	}
	return j, l
}

func tick(t *testing.T, j *journal.Journal, n int) {
	t.Helper()
	if !j.Tick(n) {
		t.Fatalf("P10: Tick(%d) could not be made safe", n)
	}
}

// wantLay: the text becomes an entry of this number and time.
func wantLay(t *testing.T, j *journal.Journal, text string, seq, time int) api.Entry {
	t.Helper()
	if n := j.Next(); n != seq {
		t.Errorf("P8: the next number is %d, want %d", n, seq)
	}
	want := api.Entry{Seq: seq, Time: time, Text: text}
	if e, ok := j.Lay(text); e != want || !ok {
		t.Errorf("P8: Lay(%q) = %#v, %t, want %#v", text, e, ok, want)
	}
	return want
}

func wantCanTick(t *testing.T, j *journal.Journal, n int, want bool) {
	t.Helper()
	if got := j.CanTick(n); got != want {
		t.Errorf("P10: at %d CanTick(%d) = %t", j.Clock(), n, got)
	}
}

// TestJournal: what is written is read again, and goes on.
func TestJournal(t *testing.T) {
	d, h := api.NewDisk()
	j, l := open(t, d)
	if len(l) != 0 || j.Clock() != 0 || j.Stopped() {
		t.Errorf("P8: a new disk has %#v at %d", l, j.Clock())
	}
	longest := strings.Repeat("\x01", api.MaxText)
	want := []api.Entry{wantLay(t, j, "a", 0, 0), wantLay(t, j, "", 1, 0)}
	tick(t, j, 7)
	want = append(want, wantLay(t, j, longest, 2, 7))
	for range 3 {
		d, h = h.Crash(0)
		j, l = open(t, d)
		if !slices.Equal(l, want) || j.Clock() != 7 {
			t.Fatalf("P8: read again: %#v at %d, want %#v at 7", l, j.Clock(), want)
		}
		want = append(want, wantLay(t, j, "again", len(want), 7))
	}
}

// TestGreatestClock: the clock comes to MaxNumber, not above it. (A log can't be brought there in a test: its Ticks are small.)
func TestGreatestClock(t *testing.T) {
	d, h := api.NewDisk()
	j, _ := open(t, d)
	wantCanTick(t, j, api.MaxTick, true)
	tick(t, j, api.MaxNumber-api.MaxTick)
	wantCanTick(t, j, api.MaxTick, true)
	wantCanTick(t, j, api.MaxTick+1, false)
	tick(t, j, 1)
	wantCanTick(t, j, api.MaxTick, false)
	wantCanTick(t, j, api.MaxTick-1, true)
	tick(t, j, api.MaxTick-2)
	d, _ = h.Crash(0)
	j, _ = open(t, d)
	wantCanTick(t, j, 2, false)
	wantCanTick(t, j, 1, true)
	tick(t, j, 1)
	for _, n := range []int{1, 2, api.MaxTick, 0, -1} {
		wantCanTick(t, j, n, false)
	}
	wantLay(t, j, "late", 0, api.MaxNumber)
}

// TestStoppedJournal: what could not be made safe has not happened.
func TestStoppedJournal(t *testing.T) {
	for steps := range 2 {
		d, h := api.NewDisk()
		j, _ := open(t, d)
		tick(t, j, 3)
		h.Stop(steps)
		if j.Tick(5) || j.Clock() != 3 {
			t.Errorf("P8: Tick on a disk that stops: the clock is %d", j.Clock())
		}
		if e, ok := j.Lay("a"); ok || e != (api.Entry{}) || j.Next() != 0 {
			t.Errorf("P8: Lay on a disk that stops: %#v, %t; the next number is %d", e, ok, j.Next())
		}
		if !j.Stopped() {
			t.Error("P8: a journal on a disk that is stopped is not")
		}
	}
}

// TestTornRecords: of a record that was not made safe a crash leaves any number of bytes: it is read whole or not at all, that
// stays so, and what is written behind it is read too.
func TestTornRecords(t *testing.T) {
	const text = "\x01\x015 \x00"
	last := 0
	for keep := range 20 {
		d, h := api.NewDisk()
		j, _ := open(t, d)
		want := []api.Entry{wantLay(t, j, "a", 0, 0)}
		h.Stop(1)
		j.Lay(text)
		d, h = h.Crash(keep)
		j, l := open(t, d)
		if len(l) == 2 {
			want = append(want, api.Entry{Seq: 1, Text: text})
		}
		if !slices.Equal(l, want) || len(l) < last || j.Clock() != 0 {
			t.Fatalf("P8: keep %d leaves %#v at %d", keep, l, j.Clock())
		}
		last = len(l)
		tick(t, j, 8)
		want = append(want, wantLay(t, j, "b", len(want), 8))
		d, _ = h.Crash(0)
		if j, l = open(t, d); !slices.Equal(l, want) || j.Clock() != 8 {
			t.Errorf("P8: behind keep %d: %#v at %d, want %#v at 8", keep, l, j.Clock(), want)
		}
	}
	if last != 2 {
		t.Error("P8: a record that a crash left whole is not read")
	}
}

// TestOpenAtTheLastStep: a disk that stops with the last step that Open needs has stopped meanwhile.
func TestOpenAtTheLastStep(t *testing.T) {
	for steps := 0; ; steps++ {
		d, h := api.NewDisk()
		h.Stop(steps)
		j, l, ok := journal.Open(d)
		if ok == d.Stopped() || ok != (j != nil) || l != nil {
			t.Fatalf("P8: Open with %d steps: %t, and the disk is stopped: %t", steps, ok, d.Stopped())
		}
		if ok {
			return
		}
	}
}
