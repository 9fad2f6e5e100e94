package almanac

import (
	"slices"

	"almanac/api"
)

// task: the first Fan segments of one level are to become one of the next. The zero task is none.
type task struct{ from, into int }

// layTasks lays a task for each level that is due.
func (l *Log) layTasks() {
	for level := range api.Levels - 1 {
		t := task{from: level, into: level + 1}
		if len(l.levels[level]) >= l.config.Fan && !l.hasTask(t) {
			w := l.workers[level%len(l.workers)]
			w.list = append(w.list, t)
		}
	}
}

func (l *Log) hasTask(t task) bool {
	return slices.ContainsFunc(l.workers, func(w *worker) bool { return w.has(t) })
}

// end: a task has ended, and no worker has it any more.
func (l *Log) end(t task) {
	merged := l.levels[t.from][:l.config.Fan]
	if kept := l.kept(merged); len(kept) > 0 {
		l.put(t.into, newSegment(kept))
	}
	l.levels[t.from] = slices.Delete(l.levels[t.from], 0, len(merged))
	l.layTasks()
}

// kept: of the entries of segments those that do not go with a merging.
func (l *Log) kept(segments []*segment) []api.Entry {
	young, needed := l.young(), l.needed()
	var kept []api.Entry
	for _, s := range segments {
		for _, e := range s.entries {
			if e.Time >= young || e.Seq >= needed {
				kept = append(kept, e)
			}
		}
	}
	return kept
}

// needed: the least sequence number of which a tail still has need.
func (l *Log) needed() int {
	least := l.journal.Next()
	for _, t := range l.tails {
		least = min(least, t.place)
	}
	return least
}
