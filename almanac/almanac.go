// Package almanac: a log of short texts that is searched by words: see DOC.md.
package almanac

import (
	"slices"

	"almanac/api"
	"almanac/journal"
)

// Log is a log.
type Log struct {
	config     api.Config
	journal    *journal.Journal
	memory     *segment
	levels     [api.Levels][]*segment
	workers    []*worker
	tails      map[int]tail
	subscribed int // how many tails there ever were
}

// New makes a log of what is on a disk (P8).
func New(c api.Config, d *api.Disk) (*Log, api.Errno) {
	if !isConfig(c) || !isDisk(d) {
		return nil, api.ErrArg
	}
	j, entries, ok := journal.Open(d)
	if !ok {
		return nil, api.ErrDown
	}
	l := &Log{config: c, journal: j, memory: newSegment(nil), tails: map[int]tail{}}
	for range c.Workers {
		l.workers = append(l.workers, newWorker(l))
	}
	if len(entries) > 0 {
		l.put(api.Levels-1, newSegment(entries))
	}
	return l, api.OK
}

func isConfig(c api.Config) bool {
	return isWithin(c.Memory, 1, api.MaxMemory) && isWithin(c.Fan, 2, api.MaxFan) && isWithin(c.Back, 0, api.MaxBack) &&
		isWithin(c.Workers, 1, api.MaxWorkers) && isWithin(c.Keep, 1, api.MaxKeep) && isWithin(c.Batch, 1, api.MaxBatch)
}

func isWithin(n, least, greatest int) bool { return least <= n && n <= greatest }

// isDisk: only a disk that api.NewDisk made has files; the calls of a zero one would panic.
func isDisk(d *api.Disk) bool { return d != nil && *d != (api.Disk{}) }

// put: a segment comes to a level, behind all others.
func (l *Log) put(level int, s *segment) {
	l.levels[level] = append(l.levels[level], s)
}

// Append lays a text down; its sequence number (P9).
func (l *Log) Append(text string) (int, api.Errno) {
	switch {
	case l.journal.Stopped():
		return 0, api.ErrDown
	case len(text) > api.MaxText:
		return 0, api.ErrLong
	case l.isFull() && len(l.levels[0]) >= l.config.Fan+l.config.Back:
		return 0, api.ErrBusy
	}
	e, ok := l.journal.Lay(text)
	if !ok {
		return 0, api.ErrDown
	}
	if l.isFull() {
		l.put(0, l.memory)
		l.memory = newSegment(nil)
		l.layTasks()
	}
	l.memory.add(e)
	return e.Seq, api.OK
}

func (l *Log) isFull() bool { return len(l.memory.entries) >= l.config.Memory }

// Tick lets the time go on (P10).
func (l *Log) Tick(n int) api.Errno {
	if !l.journal.CanTick(n) {
		return api.ErrArg
	}
	if !l.journal.Tick(n) {
		return api.ErrDown
	}
	return api.OK
}

// Query tells the entries that have a word, of some times; how many segments were opened (P11).
func (l *Log) Query(word string, from int, to int) ([]api.Entry, int, api.Errno) {
	if !isWord(word) {
		return nil, 0, api.ErrWord
	}
	young := max(from, l.young())
	var found []api.Entry
	opened := 0
	for _, s := range l.segments() {
		found = append(found, s.find(word, young, to)...)
		if s.meets(word, from, to) {
			opened++
		}
	}
	return append(found, l.memory.find(word, young, to)...), opened, api.OK
}

// young: the least time of an entry that is not old.
func (l *Log) young() int { return l.journal.Clock() - l.config.Keep }

// segments: those of all levels, by the sequence numbers of their entries: since segments go from the front of a level to the
// end of the next, a higher level has the lesser ones.
func (l *Log) segments() []*segment {
	var all []*segment
	for _, level := range slices.Backward(l.levels[:]) {
		all = append(all, level...)
	}
	return all
}

// Step lets a worker do a step (P12).
func (l *Log) Step(worker int) (int, api.Errno) {
	if !isWithin(worker, 0, len(l.workers)-1) {
		return 0, api.ErrArg
	}
	return l.workers[worker].next(), api.OK
}

// Levels tells the segments of all levels (P13).
func (l *Log) Levels() [][]api.Shape {
	shapes := make([][]api.Shape, len(l.levels))
	for i, level := range l.levels {
		for _, s := range level {
			shapes[i] = append(shapes[i], s.shape())
		}
	}
	return shapes
}

// Pending tells how many tasks there are (P13).
func (l *Log) Pending() int {
	n := 0
	for _, w := range l.workers {
		n += w.pending()
	}
	return n
}

// Subscribe makes a tail (P14).
func (l *Log) Subscribe(word string) (int, api.Errno) {
	switch {
	case !isWord(word):
		return 0, api.ErrWord
	case len(l.tails) >= api.MaxTails:
		return 0, api.ErrMany
	}
	number := l.subscribed
	l.tails[number] = newTail(word, l.journal.Next())
	l.subscribed++
	return number, api.OK
}

// Poll tells the next entries of a tail (P15).
func (l *Log) Poll(tail int) ([]api.Entry, api.Errno) {
	t, ok := l.tails[tail]
	if !ok {
		return nil, api.ErrUnknown
	}
	told := t.read(append(l.segments(), l.memory), l.config.Batch)
	t.place = l.journal.Next()
	if len(told) == l.config.Batch {
		t.place = told[len(told)-1].Seq + 1
	}
	l.tails[tail] = t
	return told, api.OK
}

// Unsubscribe ends a tail (P16).
func (l *Log) Unsubscribe(tail int) api.Errno {
	if _, ok := l.tails[tail]; !ok {
		return api.ErrUnknown
	}
	delete(l.tails, tail)
	return api.OK
}
