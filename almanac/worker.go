package almanac

import (
	"cmp"
	"slices"
)

// What a step came to, as Step tells it (P12).
const (
	nothing = iota
	something
	ending
)

// worker: its list of tasks; the one that it runs, and how many segments it has read for it; what it does next.
type worker struct {
	log     *Log
	list    []task
	running task
	read    int
	next    func() int
}

func newWorker(l *Log) *worker {
	w := &worker{log: l}
	w.next = w.look
	return w
}

// look: it looks for a task, and runs it from then on.
func (w *worker) look() int {
	t := w.take()
	if t == (task{}) {
		return nothing
	}
	w.running, w.next = t, w.readOn
	return something
}

// take: the last task of its own list, or else the first one of the longest list that there is.
func (w *worker) take() task {
	if n := len(w.list); n > 0 {
		return w.give(n - 1)
	}
	other := slices.MaxFunc(w.log.workers, func(a, b *worker) int { return cmp.Compare(len(a.list), len(b.list)) })
	if len(other.list) == 0 {
		return task{}
	}
	return other.give(0)
}

// give: the i-th task goes from its list.
func (w *worker) give(i int) task {
	t := w.list[i]
	w.list = slices.Delete(w.list, i, i+1)
	return t
}

// readOn: it has read one segment more; with the last one the task ends.
func (w *worker) readOn() int {
	w.read++
	if w.read < w.log.config.Fan {
		return something
	}
	ended := w.running
	w.running, w.read, w.next = task{}, 0, w.look
	w.log.end(ended)
	return ending
}

func (w *worker) has(t task) bool { return w.running == t || slices.Contains(w.list, t) }

// pending: how many tasks it has, in its list and running.
func (w *worker) pending() int {
	if w.running == (task{}) {
		return len(w.list)
	}
	return len(w.list) + 1
}
