package almanac

import (
	"bytes"

	"almanac/api"
	"almanac/order"
)

// How many bytes the numbers of a segment have; those that are not here have one.
const (
	countBytes  = 2
	numberBytes = 8
	sumBytes    = 4
)

// Pack makes the bytes of a segment (P6).
func Pack(l []api.Entry) ([]byte, api.Errno) {
	if !isSegment(l) {
		return nil, api.ErrForm
	}
	b := appendNumber(nil, len(l), countBytes)
	for _, e := range l {
		b = appendEntry(b, e)
	}
	b = appendIndex(b, l)
	return appendNumber(b, sum(b), sumBytes), api.OK
}

// Unpack reads a segment (P7).
func Unpack(b []byte) ([]api.Entry, api.Errno) {
	l := readEntries(b)
	// Whatever was read, only if Pack makes these bytes of it are they a segment: so nothing else of them needs a look.
	again, f := Pack(l)
	if f != api.OK || !bytes.Equal(again, b) {
		return nil, api.ErrForm
	}
	return l, api.OK
}

// isSegment: may these entries be packed?
func isSegment(l []api.Entry) bool {
	if len(l) < 1 || len(l) > api.MaxEntries {
		return false
	}
	for i, e := range l {
		if !isEntry(e) || i > 0 && !follows(e, l[i-1]) {
			return false
		}
	}
	return true
}

// isEntry: may this entry be packed?
func isEntry(e api.Entry) bool {
	return isNumber(e.Seq) && isNumber(e.Time) && len(e.Text) <= api.MaxText
}

func isNumber(n int) bool { return 0 <= n && n <= api.MaxNumber }

// follows: may e stand behind last in a segment?
func follows(e, last api.Entry) bool { return e.Seq > last.Seq && e.Time >= last.Time }

// appendNumber lays a number down in so many bytes, the highest first.
func appendNumber(b []byte, n int, size int) []byte {
	for i := size - 1; i >= 0; i-- {
		b = append(b, byte(n>>(8*i)))
	}
	return b
}

// appendText lays a text down behind its length.
func appendText(b []byte, text string) []byte {
	return append(append(b, byte(len(text))), text...)
}

func appendEntry(b []byte, e api.Entry) []byte {
	b = appendNumber(b, e.Seq, numberBytes)
	b = appendNumber(b, e.Time, numberBytes)
	return appendText(b, e.Text)
}

// appendIndex lays down which words there are, and which entries have them.
func appendIndex(b []byte, l []api.Entry) []byte {
	lists := make([][]string, len(l))
	for i, e := range l {
		lists[i] = Words(e.Text)
	}
	words := order.Merge(lists...)
	b = appendNumber(b, len(words), countBytes)
	for _, w := range words {
		having := takeFirst(lists, w)
		b = appendText(b, w)
		b = append(b, byte(len(having)))
		b = append(b, having...)
	}
	return b
}

// takeFirst takes the word off the lists that begin with it, and tells their numbers. All lists rise: if it is called with
// all words, rising, then a list that has the word begins with it.
func takeFirst(lists [][]string, word string) []byte {
	var having []byte
	for i, l := range lists {
		if len(l) > 0 && l[0] == word {
			having = append(having, byte(i))
			lists[i] = l[1:]
		}
	}
	return having
}

// sum: the SUM of the document.
func sum(b []byte) int {
	a, c := 1, 0
	for _, x := range b {
		a = (a + int(x)) % 65521
		c = (c + a) % 65521
	}
	return 65536*c + a
}

// reader reads bytes from the first to the last.
type reader struct{ left []byte }

// take: the next n bytes; if there are less, these.
func (r *reader) take(n int) []byte {
	n = min(n, len(r.left))
	b := r.left[:n]
	r.left = r.left[n:]
	return b
}

func (r *reader) number(size int) int {
	n := 0
	for _, x := range r.take(size) {
		n = n<<8 | int(x)
	}
	return n
}

// entry: the next entry. Its fields are read one after the other, as they stand.
func (r *reader) entry() api.Entry {
	seq := r.number(numberBytes)
	time := r.number(numberBytes)
	return api.Entry{Seq: seq, Time: time, Text: string(r.take(r.number(1)))}
}

// readEntries: the entries at the beginning of a segment; of other bytes some entries or none, but never more than a segment has.
func readEntries(b []byte) []api.Entry {
	r := reader{b}
	var l []api.Entry
	for range min(r.number(countBytes), api.MaxEntries) {
		l = append(l, r.entry())
	}
	return l
}
