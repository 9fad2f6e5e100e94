package almanac

import (
	"strings"

	"almanac/api"
)

// tail: it follows a word, and has need of all entries from its place on.
type tail struct {
	word  string
	place int
}

// newTail: the word is copied, for it may be a small piece of a great text, which would be kept with it.
func newTail(word string, place int) tail {
	return tail{word: strings.Clone(word), place: place}
}

// read: the first entries that have its word, of these segments, from its place on; most at most.
func (t tail) read(segments []*segment, most int) []api.Entry {
	var found []api.Entry
	for _, s := range segments {
		found = append(found, s.follow(t.word, t.place, most-len(found))...)
	}
	return found
}
