package journal

import (
	"strconv"

	"almanac/api"
)

// kind: what a record tells.
type kind byte

const (
	laid   kind = iota // that a text was laid down: the text
	ticked             // that the clock went on: by how much, in decimal digits
)

// headBytes: ahead of its body a record has its kind and the body's length, in one byte each.
const headBytes = 2

func record(k kind, body string) string {
	return string([]byte{byte(k), byte(len(body))}) + body
}

// first: the first record of some; false: there is none, or a crash has left only its first bytes.
func first(records string) (k kind, body string, whole bool) {
	if len(records) < headBytes {
		return 0, "", false
	}
	end := headBytes + int(records[1])
	if len(records) < end {
		return 0, "", false
	}
	return kind(records[0]), records[headBytes:end], true
}

// past: what records tell, one behind the other.
type past struct {
	clock   int
	entries []api.Entry
}

// read: what these records tell, and how many bytes the whole ones have.
func read(records string) (past, int) {
	kinds := [...]func(*past, string){laid: (*past).lay, ticked: (*past).tick}
	var p past
	at := 0
	for {
		k, body, whole := first(records[at:])
		if !whole || int(k) >= len(kinds) {
			return p, at
		}
		kinds[k](&p, body)
		at += headBytes + len(body)
	}
}

// lay: the numbers of entries are not written, since they rise by one.
func (p *past) lay(body string) {
	p.entries = append(p.entries, entry(len(p.entries), p.clock, body))
}

func (p *past) tick(body string) {
	n, _ := strconv.Atoi(body) // nobody else writes here: it is a number
	p.clock += n
}
