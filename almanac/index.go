package almanac

import (
	"sort"

	"almanac/api"
	"almanac/order"
)

// segment: the entries of a segment, and of each word the numbers (from 0 on) of those that have it. The memory is one too,
// that grows.
type segment struct {
	entries []api.Entry
	having  map[string]order.Set[int]
}

func newSegment(entries []api.Entry) *segment {
	s := &segment{having: map[string]order.Set[int]{}}
	for _, e := range entries {
		s.add(e)
	}
	return s
}

// add puts an entry behind the others.
func (s *segment) add(e api.Entry) {
	for _, w := range Words(e.Text) {
		numbers := s.having[w]
		numbers.Add(len(s.entries))
		s.having[w] = numbers
	}
	s.entries = append(s.entries, e)
}

// find: the entries that have a word and a time from from to to.
func (s *segment) find(word string, from, to int) []api.Entry {
	first := sort.Search(len(s.entries), func(i int) bool { return s.entries[i].Time >= from })
	behind := sort.Search(len(s.entries), func(i int) bool { return s.entries[i].Time > to })
	numbers := s.having[word]
	var found []api.Entry
	for _, i := range numbers.Between(first, behind-1) {
		found = append(found, s.entries[i])
	}
	return found
}

// meets: does an entry have the word, and do the times from from to to meet those from the first entry's to the last one's?
func (s *segment) meets(word string, from, to int) bool {
	numbers := s.having[word]
	return numbers.Len() > 0 && s.entries[0].Time <= to && s.entries[len(s.entries)-1].Time >= from
}

// follow: the entries that have a word and a sequence number from place on, the first ones of them, most at most.
func (s *segment) follow(word string, place, most int) []api.Entry {
	numbers := s.having[word]
	number := func(i int) int { n, _ := numbers.At(i); return n }
	first := sort.Search(numbers.Len(), func(i int) bool { return s.entries[number(i)].Seq >= place })
	var found []api.Entry
	for i := first; i < min(first+most, numbers.Len()); i++ {
		found = append(found, s.entries[number(i)])
	}
	return found
}

func (s *segment) shape() api.Shape {
	last := len(s.entries) - 1
	return api.Shape{First: s.entries[0].Seq, Last: s.entries[last].Seq, Count: last + 1}
}
