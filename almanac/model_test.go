package almanac_test

import (
	"fmt"
	"math/rand/v2"
	"slices"
	"strings"
	"testing"

	"almanac/almanac"
	"almanac/api"
)

// model: a log, told the long way: its entries are lists, and every question goes through all of them.
type model struct {
	api.Config
	clock, next int
	memory      []api.Entry
	levels      [api.Levels][][]api.Entry
}

// again: the model behind New, with another configuration.
func (m *model) again(c api.Config) *model {
	var all []api.Entry
	for i := range m.levels {
		all = append(slices.Concat(m.levels[i]...), all...)
	}
	all = append(all, m.memory...)
	out := &model{Config: c, clock: m.clock, next: m.next}
	if len(all) > 0 {
		out.levels[api.Levels-1] = [][]api.Entry{all}
	}
	return out
}

func (m *model) lay(text string) (int, api.Errno) {
	full := len(m.memory) == m.Memory
	switch {
	case len(text) > api.MaxText:
		return 0, api.ErrLong
	case full && len(m.levels[0]) >= m.Fan+m.Back:
		return 0, api.ErrBusy
	case full:
		m.levels[0] = append(m.levels[0], m.memory)
		m.memory = nil
	}
	m.memory = append(m.memory, entry(m.next, m.clock, text))
	m.next++
	return m.next - 1, api.OK
}

func (m *model) tick(n int) api.Errno {
	if n < 1 || n > api.MaxTick {
		return api.ErrArg
	}
	m.clock += n
	return api.OK
}

func (m *model) query(word string, from, to int) ([]api.Entry, int) {
	var found []api.Entry
	segments := 0
	look := func(l []api.Entry) (has bool) {
		for _, e := range l {
			if !slices.Contains(naiveWords(e.Text), word) {
				continue
			}
			has = true
			if from <= e.Time && e.Time <= to && m.clock-e.Time <= m.Keep {
				found = append(found, e)
			}
		}
		return has
	}
	for _, level := range m.levels {
		for _, l := range level {
			if look(l) && l[0].Time <= to && l[len(l)-1].Time >= from {
				segments++
			}
		}
	}
	look(m.memory)
	slices.SortFunc(found, func(a, b api.Entry) int { return a.Seq - b.Seq })
	return found, segments
}

// pair: a log and its model, on a disk.
type pair struct {
	r     *rand.Rand
	log   *almanac.Log
	model *model
	disk  *api.Disk
	hand  *api.Hand
	calls []string
}

func someConfig(r *rand.Rand) api.Config {
	return api.Config{Memory: 1 + r.IntN(api.MaxMemory), Fan: 2 + r.IntN(api.MaxFan-1), Back: r.IntN(api.MaxBack + 1), Workers: 1 + r.IntN(api.MaxWorkers), Keep: 1 + r.IntN(60), Batch: 1 + r.IntN(api.MaxBatch)}
}

// call notes a call, so that what went wrong can be told with all that was ahead of it.
func (p *pair) call(format string, args ...any) {
	p.calls = append(p.calls, fmt.Sprintf(format, args...))
}

func (p *pair) fail(t *testing.T, promise string, got, want any) {
	t.Helper()
	last := p.calls[max(0, len(p.calls)-60):]
	t.Fatalf("%s: behind %s: %#v, want %#v", promise, strings.Join(last, "; "), got, want)
}

// append: half of the texts are short, of a few words.
func (p *pair) append(t *testing.T) {
	text := someText(p.r, p.r.IntN(api.MaxText+4))
	if p.r.IntN(2) == 0 {
		text = someText(p.r, p.r.IntN(5))
	}
	p.call("Append(%q)", text)
	n, f := p.log.Append(text)
	if n2, f2 := p.model.lay(text); n != n2 || f != f2 {
		p.fail(t, "P9", []int{n, int(f)}, []int{n2, int(f2)})
	}
}

func (p *pair) tick(t *testing.T) {
	n := p.r.IntN(12) - 1
	if p.r.IntN(20) == 0 {
		n = p.r.IntN(1200)
	}
	p.call("Tick(%d)", n)
	f := p.log.Tick(n)
	if f2 := p.model.tick(n); f != f2 {
		p.fail(t, "P10", f, f2)
	}
}

func (p *pair) query(t *testing.T) {
	word := []string{"a", "b", "aa", "ab", "0", "1", "10", "a1", "bb"}[p.r.IntN(9)]
	from, to := p.model.clock-p.r.IntN(80), p.model.clock-p.r.IntN(60)
	if p.r.IntN(3) == 0 {
		from, to = 0, ever
	}
	p.call("Query(%q, %d, %d)", word, from, to)
	x, n, f := p.log.Query(word, from, to)
	x2, n2 := p.model.query(word, from, to)
	if !slices.Equal(x, x2) || f != api.OK {
		p.fail(t, "P11", x, x2)
	}
	if n != n2 {
		p.fail(t, "P11, segments", n, n2)
	}
}

// new opens the log again, on the same disk or on what a crash leaves.
func (p *pair) new(t *testing.T) {
	c := someConfig(p.r)
	if p.r.IntN(2) == 0 {
		p.disk, p.hand = p.hand.Crash(p.r.IntN(100))
	}
	p.call("New(%+v)", c)
	p.log = open(t, c, p.disk)
	p.model = p.model.again(c)
}

// TestByChance holds logs against the model, call by call.
func TestByChance(t *testing.T) {
	for seed := range uint64(60) {
		r := rand.New(rand.NewPCG(seed, 11))
		c := someConfig(r)
		p := &pair{r: r, model: &model{Config: c}}
		p.disk, p.hand = api.NewDisk()
		p.log = open(t, c, p.disk)
		p.call("New(%+v)", c)
		for range 400 {
			switch n := r.IntN(100); {
			case n < 50:
				p.append(t)
			case n < 65:
				p.tick(t)
			case n < 97:
				p.query(t)
			default:
				p.new(t)
			}
		}
	}
}
