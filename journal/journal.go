// Package journal: what happened to a log, on a disk, so that it can be told again behind a crash (P8).
package journal

import (
	"strconv"
	"strings"

	"almanac/api"
)

// The names of the files: the records stand in the one; the other is the next one of that name, until it is whole.
const (
	name  = "journal"
	draft = "journal.draft"
)

// Journal is the clock of a log, how many entries it laid down, and the disk that has all that happened.
type Journal struct {
	disk  *api.Disk
	clock int
	count int
}

// Open tells the journal of a disk, and the entries that were laid down; false: the disk stopped.
func Open(d *api.Disk) (*Journal, []api.Entry, bool) {
	records := d.Read(name)
	p, size := read(records)
	if !rewrite(d, records[:size]) || d.Stopped() {
		return nil, nil, false
	}
	return &Journal{disk: d, clock: p.clock, count: len(p.entries)}, p.entries, true
}

// rewrite makes the journal anew, of these records alone: behind the pieces of another one, none could be read again. Up to
// the last step the journal is what it was, and from then on all of it is safe.
func rewrite(d *api.Disk, records string) bool {
	return d.Remove(draft) && d.Append(draft, records) && d.Sync(draft) && d.Rename(draft, name)
}

// Stopped tells whether the disk is stopped: it stays so, and nothing happens any more.
func (j *Journal) Stopped() bool { return j.disk.Stopped() }

// Clock tells the time.
func (j *Journal) Clock() int { return j.clock }

// Next tells the next sequence number.
func (j *Journal) Next() int { return j.count }

// CanTick tells whether the clock may go on by n (P10).
func (j *Journal) CanTick(n int) bool {
	return 1 <= n && n <= api.MaxTick && n <= api.MaxNumber-j.clock
}

// Tick lets the clock go on by n; false: that could not be made safe, and it stands where it stood.
func (j *Journal) Tick(n int) bool {
	if !j.write(ticked, strconv.Itoa(n)) {
		return false
	}
	j.clock += n
	return true
}

// Lay makes the next entry, of a text of at most MaxText bytes; false: that could not be made safe, and there is none.
func (j *Journal) Lay(text string) (api.Entry, bool) {
	if !j.write(laid, text) {
		return api.Entry{}, false
	}
	e := entry(j.count, j.clock, text)
	j.count++
	return e, true
}

// entry: the text is copied, for it may be a small piece of a great one, which would be kept with it.
func entry(seq, time int, text string) api.Entry {
	return api.Entry{Seq: seq, Time: time, Text: strings.Clone(text)}
}

// write lays a record behind the others; is it safe?
func (j *Journal) write(k kind, body string) bool {
	return j.disk.Append(name, record(k, body)) && j.disk.Sync(name)
}
