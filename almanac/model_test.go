package almanac_test

import (
	"fmt"
	"math/rand/v2"
	"slices"
	"strings"
	"testing"

	"almanac/almanac"
	"almanac/api"
)

// model: a log, told the long way: its entries are lists, and every question goes through all of them.
type model struct {
	api.Config
	clock   int
	all     []api.Entry // that were ever laid down
	memory  []api.Entry
	levels  [api.Levels][][]api.Entry
	lists   [][]int // of each worker the levels of the tasks in its list
	running []int   // the level of the task that it runs; -1: none
	left    []int   // how many segments it has to read for it
	tails   map[int]*modelTail
	numbers int // of tails
}

type modelTail struct {
	word  string
	place int
}

func newModel(c api.Config, clock int, all []api.Entry) *model {
	m := &model{Config: c, clock: clock, all: all, tails: map[int]*modelTail{}}
	m.lists, m.left = make([][]int, c.Workers), make([]int, c.Workers)
	m.running = slices.Repeat([]int{-1}, c.Workers)
	if len(all) > 0 {
		m.levels[api.Levels-1] = [][]api.Entry{all}
	}
	return m
}

// story: what is there behind New.
func (m *model) story() story { return story{m.all, m.clock} }

// refuses: what an Append is answered, if not that it is laid down.
func (m *model) refuses(text string) api.Errno {
	switch {
	case len(text) > api.MaxText:
		return api.ErrLong
	case len(m.memory) == m.Memory && len(m.levels[0]) >= m.Fan+m.Back:
		return api.ErrBusy
	}
	return api.OK
}

func (m *model) lay(text string) (int, api.Errno) {
	if f := m.refuses(text); f != api.OK {
		return 0, f
	}
	if len(m.memory) == m.Memory {
		m.levels[0] = append(m.levels[0], m.memory)
		m.memory = nil
		m.layTasks()
	}
	e := entry(len(m.all), m.clock, text)
	m.memory, m.all = append(m.memory, e), append(m.all, e)
	return e.Seq, api.OK
}

func (m *model) layTasks() {
	for level := 0; level < api.Levels-1; level++ {
		there := slices.Contains(m.running, level)
		for _, list := range m.lists {
			there = there || slices.Contains(list, level)
		}
		if w := level % m.Workers; !there && len(m.levels[level]) >= m.Fan {
			m.lists[w] = append(m.lists[w], level)
		}
	}
}

func (m *model) pending() int {
	n := 0
	for w, level := range m.running {
		n += len(m.lists[w])
		if level >= 0 {
			n++
		}
	}
	return n
}

func (m *model) step(w int) (int, api.Errno) {
	if w < 0 || w >= m.Workers {
		return 0, api.ErrArg
	}
	if m.running[w] < 0 {
		return m.take(w), api.OK
	}
	m.left[w]--
	if m.left[w] > 0 {
		return 1, api.OK
	}
	m.merge(w)
	return 2, api.OK
}

func (m *model) take(w int) int {
	from, i := w, len(m.lists[w])-1
	if i < 0 {
		i = 0
		for other, list := range m.lists {
			if len(list) > len(m.lists[from]) || len(list) == len(m.lists[from]) && other < from {
				from = other
			}
		}
	}
	if len(m.lists[from]) == 0 {
		return 0
	}
	m.running[w], m.left[w] = m.lists[from][i], m.Fan
	m.lists[from] = append(slices.Clone(m.lists[from][:i]), m.lists[from][i+1:]...)
	return 1
}

// merge: the task that a worker runs ends.
func (m *model) merge(w int) {
	level := m.running[w]
	m.running[w] = -1
	var merged []api.Entry
	for _, e := range slices.Concat(m.levels[level][:m.Fan]...) {
		stays := m.clock-e.Time <= m.Keep
		for _, t := range m.tails {
			stays = stays || e.Seq >= t.place
		}
		if stays {
			merged = append(merged, e)
		}
	}
	m.levels[level] = slices.Clone(m.levels[level][m.Fan:])
	if len(merged) > 0 {
		m.levels[level+1] = append(m.levels[level+1], merged)
	}
	m.layTasks()
}

func (m *model) shapes() [][]api.Shape {
	out := make([][]api.Shape, api.Levels)
	for i, level := range m.levels {
		for _, l := range level {
			out[i] = append(out[i], api.Shape{First: l[0].Seq, Last: l[len(l)-1].Seq, Count: len(l)})
		}
	}
	return out
}

func (m *model) subscribe(word string) (int, api.Errno) {
	if len(m.tails) == api.MaxTails {
		return 0, api.ErrMany
	}
	m.tails[m.numbers] = &modelTail{word, len(m.all)}
	m.numbers++
	return m.numbers - 1, api.OK
}

// poll goes through all entries that ever were: none may have gone of which the tail has need.
func (m *model) poll(tail int) ([]api.Entry, api.Errno) {
	t := m.tails[tail]
	if t == nil {
		return nil, api.ErrUnknown
	}
	var found []api.Entry
	for _, e := range m.all[t.place:] {
		if slices.Contains(naiveWords(e.Text), t.word) {
			found = append(found, e)
		}
		if len(found) == m.Batch {
			t.place = e.Seq + 1
			return found, api.OK
		}
	}
	t.place = len(m.all)
	return found, api.OK
}

func (m *model) unsubscribe(tail int) api.Errno {
	if m.tails[tail] == nil {
		return api.ErrUnknown
	}
	delete(m.tails, tail)
	return api.OK
}

func (m *model) refusesTick(n int) api.Errno {
	if n < 1 || n > api.MaxTick {
		return api.ErrArg
	}
	return api.OK
}

func (m *model) query(word string, from, to int) ([]api.Entry, int) {
	var found []api.Entry
	segments := 0
	look := func(l []api.Entry) (has bool) {
		for _, e := range l {
			if !slices.Contains(naiveWords(e.Text), word) {
				continue
			}
			has = true
			if from <= e.Time && e.Time <= to && m.clock-e.Time <= m.Keep {
				found = append(found, e)
			}
		}
		return has
	}
	for _, level := range m.levels {
		for _, l := range level {
			if look(l) && l[0].Time <= to && l[len(l)-1].Time >= from {
				segments++
			}
		}
	}
	look(m.memory)
	slices.SortFunc(found, func(a, b api.Entry) int { return a.Seq - b.Seq })
	return found, segments
}

// pair: a log and its model, on a disk.
type pair struct {
	r     *rand.Rand
	log   *almanac.Log
	model *model
	may   story // what a crash may leave in place of the model's story, if a call could not be made safe
	disk  *api.Disk
	hand  *api.Hand
	calls []string
}

func newPair(t *testing.T, r *rand.Rand) *pair {
	t.Helper()
	c := someConfig(r)
	p := &pair{r: r, model: newModel(c, 0, nil)}
	p.disk, p.hand = api.NewDisk()
	p.log = open(t, c, p.disk)
	p.call("New(%+v)", c)
	return p
}

// someConfig: those with which little is enough for much to happen come more often.
func someConfig(r *rand.Rand) api.Config {
	c := api.Config{Memory: 1 + r.IntN(api.MaxMemory), Fan: 2 + r.IntN(api.MaxFan-1), Back: r.IntN(api.MaxBack + 1), Workers: 1 + r.IntN(api.MaxWorkers), Keep: 1 + r.IntN(60), Batch: 1 + r.IntN(api.MaxBatch)}
	if r.IntN(3) > 0 {
		c.Memory, c.Fan = 1+r.IntN(2), 2
	}
	if r.IntN(2) == 0 {
		c.Keep = 1 + r.IntN(2000)
	}
	return c
}

// call notes a call, so that what went wrong can be told with all that was ahead of it.
func (p *pair) call(format string, args ...any) {
	p.calls = append(p.calls, fmt.Sprintf(format, args...))
}

func (p *pair) fail(t *testing.T, promise string, got, want any) {
	t.Helper()
	last := p.calls[max(0, len(p.calls)-60):]
	t.Fatalf("%s: behind %s: %#v, want %#v", promise, strings.Join(last, "; "), got, want)
}

// append: half of the texts are short, of a few words.
func (p *pair) append(t *testing.T) {
	text := someText(p.r, p.r.IntN(api.MaxText+4))
	if p.r.IntN(2) == 0 {
		text = someText(p.r, p.r.IntN(5))
	}
	p.call("Append(%q)", text)
	stopped := p.disk.Stopped()
	n, f := p.log.Append(text)
	if stopped || f == api.ErrDown {
		p.down(t, stopped, f, p.model.refuses(text), p.model.story().with(text))
		return
	}
	if n2, f2 := p.model.lay(text); n != n2 || f != f2 {
		p.fail(t, "P9", []int{n, int(f)}, []int{n2, int(f2)})
	}
	p.may = p.model.story()
}

// down: an Append or a Tick could not be made safe, since the disk was stopped, or stopped meanwhile: then it may be there behind
// a crash, if nothing else was against it.
func (p *pair) down(t *testing.T, stopped bool, got, refused api.Errno, may story) {
	t.Helper()
	if got != api.ErrDown || !p.disk.Stopped() || !stopped && refused != api.OK {
		p.fail(t, "P8, on a disk that stops", got, refused)
	}
	if !stopped {
		p.may = may
	}
}

func (p *pair) tick(t *testing.T) {
	n := p.r.IntN(12) - 1
	if p.r.IntN(20) == 0 {
		n = p.r.IntN(1200)
	}
	p.call("Tick(%d)", n)
	stopped := p.disk.Stopped()
	f := p.log.Tick(n)
	refused := p.model.refusesTick(n) // told ahead of ErrDown
	switch {
	case refused != api.OK && f != refused:
		p.fail(t, "P10", f, refused)
	case refused != api.OK:
	case stopped || f == api.ErrDown:
		p.down(t, stopped, f, refused, p.model.story().later(n))
	case f != api.OK:
		p.fail(t, "P10", f, api.OK)
	default:
		p.model.clock += n
		p.may = p.model.story()
	}
}

func (p *pair) words() []string { return []string{"a", "b", "aa", "ab", "0", "1", "10", "a1", "bb"} }

func (p *pair) someWord() string { return p.words()[p.r.IntN(len(p.words()))] }

func (p *pair) query(t *testing.T) {
	word := p.someWord()
	from, to := p.model.clock-p.r.IntN(80), p.model.clock-p.r.IntN(60)
	if p.r.IntN(3) == 0 {
		from, to = 0, ever
	}
	p.call("Query(%q, %d, %d)", word, from, to)
	x, n, f := p.log.Query(word, from, to)
	x2, n2 := p.model.query(word, from, to)
	if !slices.Equal(x, x2) || f != api.OK {
		p.fail(t, "P11, P17", x, x2)
	}
	if n != n2 {
		p.fail(t, "P11, segments", n, n2)
	}
}

// steps: some workers do some steps, or one of them many; now and then one that there is not.
func (p *pair) steps(t *testing.T) {
	w, alone := p.r.IntN(p.model.Workers), p.r.IntN(2) == 0
	for range 1 + p.r.IntN(12) {
		if !alone {
			w = p.r.IntN(p.model.Workers)
		}
		if p.r.IntN(100) == 0 {
			w = p.r.IntN(9) - 2
		}
		p.call("Step(%d)", w)
		n, f := p.log.Step(w)
		if n2, f2 := p.model.step(w); n != n2 || f != f2 {
			p.fail(t, "P12", []int{n, int(f)}, []int{n2, int(f2)})
		}
		p.look(t)
	}
}

// look holds all against the model that a log tells of its segments and tasks.
func (p *pair) look(t *testing.T) {
	got, want := p.log.Levels(), p.model.shapes()
	if !slices.EqualFunc(got, want, slices.Equal[[]api.Shape]) {
		p.fail(t, "P13, Levels", got, want)
	}
	if n, n2 := p.log.Pending(), p.model.pending(); n != n2 {
		p.fail(t, "P13, Pending", n, n2)
	}
}

func (p *pair) subscribe(t *testing.T) {
	word := p.someWord()
	p.call("Subscribe(%q)", word)
	n, f := p.log.Subscribe(word)
	if n2, f2 := p.model.subscribe(word); n != n2 || f != f2 {
		p.fail(t, "P14", []int{n, int(f)}, []int{n2, int(f2)})
	}
}

// someTail: mostly one that there is, or was.
func (p *pair) someTail() int { return p.r.IntN(p.model.numbers+3) - 1 }

func (p *pair) poll(t *testing.T) {
	tail := p.someTail()
	p.call("Poll(%d)", tail)
	x, f := p.log.Poll(tail)
	if x2, f2 := p.model.poll(tail); !slices.Equal(x, x2) || f != f2 {
		p.fail(t, "P15, P18", x, x2)
	}
}

func (p *pair) unsubscribe(t *testing.T) {
	tail := p.someTail()
	p.call("Unsubscribe(%d)", tail)
	f := p.log.Unsubscribe(tail)
	if f2 := p.model.unsubscribe(tail); f != f2 {
		p.fail(t, "P16", f, f2)
	}
}

// new opens the log again, on the same disk or on what a crash leaves.
func (p *pair) new(t *testing.T) {
	c := someConfig(p.r)
	if p.disk.Stopped() || p.r.IntN(2) == 0 {
		p.crash()
	}
	p.hand.Stop(-1)
	p.call("New(%+v)", c)
	p.log = open(t, c, p.disk)
	p.settle(t)
	p.model = newModel(c, p.model.clock, p.model.all)
}

func (p *pair) someCall(t *testing.T) {
	switch n := p.r.IntN(1000); {
	case n < 400:
		p.append(t)
	case n < 470:
		p.tick(t)
	case n < 600:
		p.query(t)
	case n < 900:
		p.steps(t)
	case n < 920:
		p.subscribe(t)
	case n < 985:
		p.poll(t)
	case n < 996:
		p.unsubscribe(t)
	default:
		p.new(t)
	}
}

// TestByChance holds logs against the model, call by call.
func TestByChance(t *testing.T) {
	for seed := range uint64(80) {
		p := newPair(t, rand.New(rand.NewPCG(seed, 11)))
		for range 800 {
			p.someCall(t)
			p.look(t)
		}
		rest(t, p.log, p.model.Config)
	}
}
