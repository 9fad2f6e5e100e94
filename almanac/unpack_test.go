package almanac_test

import (
	"bytes"
	"encoding/binary"
	"math/rand/v2"
	"slices"
	"strings"
	"testing"

	"almanac/almanac"
	"almanac/api"
)

// three: a small segment with words that one, two and three entries have.
func three() []api.Entry {
	return []api.Entry{entry(1, 2, "b ab c"), entry(3, 2, "B-c"), entry(256, 1000000, "C")}
}

// TestBytesThatAreOther: one byte another, one more, one less, at every place.
func TestBytesThatAreOther(t *testing.T) {
	for _, l := range [][]api.Entry{{entry(0, 0, "")}, {entry(5, 7, "a-A")}, three()} {
		b, _ := almanac.Pack(l)
		for i := range b {
			for x := 1; x < 256; x++ {
				other := slices.Clone(b)
				other[i] ^= byte(x)
				wantNoBytes(t, "another byte", other)
			}
			wantNoBytes(t, "a byte less", slices.Delete(slices.Clone(b), i, i+1))
			wantNoBytes(t, "the first bytes", b[:i])
			wantNoBytes(t, "the last bytes", b[i+1:])
		}
		for i := range len(b) + 1 {
			for _, x := range []byte{0, 1, 'a', 255} {
				wantNoBytes(t, "a byte more", slices.Insert(slices.Clone(b), i, x))
			}
		}
		wantNoBytes(t, "twice", append(slices.Clone(b), b...))
	}
}

// TestBytesThatAreOtherAndSummed: the sum fits, but what stands ahead of it is other.
func TestBytesThatAreOtherAndSummed(t *testing.T) {
	for _, l := range [][]api.Entry{{entry(0, 0, "")}, {entry(5, 7, "a-A")}, three()} {
		b := lay(l)
		wantIfPacked(t, b)
		for i := range b {
			for x := 1; x < 256; x++ {
				other := slices.Clone(b)
				other[i] ^= byte(x)
				wantIfPacked(t, other)
			}
			wantNoBytes(t, "a byte less", summed(slices.Delete(slices.Clone(b), i, i+1)))
			wantNoBytes(t, "the first bytes", summed(b[:i]))
		}
		for _, x := range []byte{0, 1, 'a', 255} {
			wantNoBytes(t, "a byte more at the end", summed(append(slices.Clone(b), x)))
			wantNoBytes(t, "a byte more at the beginning", summed(append([]byte{x}, b...)))
		}
	}
}

// wantIfPacked: these bytes and their sum are a segment just if the naive reading finds entries of which they are the bytes.
func wantIfPacked(t *testing.T, b []byte) {
	t.Helper()
	l := naiveRead(b)
	if l == nil || !bytes.Equal(lay(l), b) {
		wantNoBytes(t, "other bytes", summed(b))
		return
	}
	wantSegment(t, l)
}

// naiveRead: the entries of which these may be the bytes (nil: of none that may be).
func naiveRead(b []byte) []api.Entry {
	if len(b) < 2 {
		return nil
	}
	n := int(binary.BigEndian.Uint16(b))
	b = b[2:]
	var l []api.Entry
	last := api.Entry{Seq: -1}
	for range n {
		if len(b) < 17 || len(b) < 17+int(b[16]) || len(l) == api.MaxEntries {
			return nil
		}
		seq, time, size := binary.BigEndian.Uint64(b), binary.BigEndian.Uint64(b[8:]), int(b[16])
		if seq > api.MaxNumber || time > api.MaxNumber || size > api.MaxText {
			return nil
		}
		e := entry(int(seq), int(time), string(b[17:17+size]))
		if e.Seq <= last.Seq || e.Time < last.Time {
			return nil
		}
		l, last, b = append(l, e), e, b[17+size:]
	}
	return l
}

// TestOtherCounts: the count of entries is not that of the entries.
func TestOtherCounts(t *testing.T) {
	l := three()
	for _, n := range []int{0, 1, 2, 4, 5, 64, 65, 255, 256, 256 + 3, 65535} {
		wantNoBytes(t, "another count", summed(layWords(n, l, wordsOf(l))))
	}
	wantNoBytes(t, "no entries", summed([]byte{0, 0, 0, 0}))
	wantNoBytes(t, "no entries, no words", summed([]byte{0, 0}))
}

// TestOtherWords: the entries are right, their words are not.
func TestOtherWords(t *testing.T) {
	l := three()
	right := []word{{"ab", []byte{0}}, {"b", []byte{0, 1}}, {"c", []byte{0, 1, 2}}}
	if !bytes.Equal(layWords(3, l, right), lay(l)) {
		t.Fatal("the test's own bytes are wrong")
	}
	ab, b, c := right[0], right[1], right[2]
	for what, words := range map[string][]word{
		"no words":               nil,
		"a word less":            {ab, b},
		"another word less":      {b, c},
		"a word more":            {ab, b, c, {"d", []byte{0}}},
		"a word of no entry":     {ab, b, c, {"d", nil}},
		"a word of no bytes":     {{"", []byte{0}}, ab, b, c},
		"a word twice":           {ab, b, b, c},
		"words not rising":       {b, ab, c},
		"words falling":          {c, b, ab},
		"a great letter":         {ab, {"B", []byte{0, 1}}, c},
		"another word":           {ab, b, {"d", []byte{0, 1, 2}}},
		"an entry less":          {ab, b, {"c", []byte{0, 1}}},
		"the first entry less":   {ab, b, {"c", []byte{1, 2}}},
		"an entry more":          {ab, {"b", []byte{0, 1, 2}}, c},
		"an entry twice":         {ab, {"b", []byte{0, 1, 1}}, c},
		"another entry":          {{"ab", []byte{1}}, b, c},
		"an entry that is none":  {{"ab", []byte{3}}, b, c},
		"the greatest number":    {{"ab", []byte{255}}, b, c},
		"entries not rising":     {ab, {"b", []byte{1, 0}}, c},
		"entries from 1 on":      {{"ab", []byte{1}}, {"b", []byte{1, 2}}, {"c", []byte{1, 2, 3}}},
		"no entries of any word": {{"ab", nil}, {"b", nil}, {"c", nil}},
	} {
		wantNoBytes(t, what, summed(layWords(3, l, words)))
	}
}

// TestOtherSums: all is right but the sum.
func TestOtherSums(t *testing.T) {
	for _, l := range [][]api.Entry{three(), fullTexts("\xff"), fullTexts("q")} {
		b := lay(l)
		right, _ := almanac.Pack(l)
		wantSegment(t, l)
		sum := binary.BigEndian.Uint32(right[len(right)-4:])
		for _, other := range []uint32{0, 1, sum + 1, sum - 1, sum + 65536, sum - 65536, sum + 65521, sum<<16 | sum>>16, sum ^ 1<<31, ^sum} {
			wantNoBytes(t, "another sum", binary.BigEndian.AppendUint32(slices.Clone(b), other))
		}
		wantNoBytes(t, "the sum with the lowest byte first", binary.LittleEndian.AppendUint32(slices.Clone(b), sum))
		wantNoBytes(t, "no sum", b)
		wantNoBytes(t, "the sum twice", append(slices.Clone(right), right[len(right)-4:]...))
	}
}

// TestAnyBytes: bytes of any kind and length are answered (P1).
func TestAnyBytes(t *testing.T) {
	wantNoBytes(t, "nil", nil)
	r := rand.New(rand.NewPCG(9, 10))
	for n := range 400 {
		b := make([]byte, n)
		wantNoBytes(t, "nothing but 0", b)
		wantNoBytes(t, "nothing but 255", bytes.Repeat([]byte{255}, n))
		for i := range b {
			b[i] = byte(r.Uint32())
		}
		wantNoBytes(t, "any bytes", b)
		wantNoBytes(t, "any bytes, summed", summed(b))
	}
	great := make([]byte, 1<<22)
	wantNoBytes(t, "many bytes", great)
	great[1] = 64
	wantNoBytes(t, "many bytes, many entries", great)
	great[0] = 255
	wantNoBytes(t, "many bytes, too many entries", summed(great))
}

// TestPackStaysApart: what is handed to Pack is not written into, and what it tells is new memory (P2).
func TestPackStaysApart(t *testing.T) {
	spare := entry(77, 77, "spare")
	room := append(three(), spare, spare, spare)
	was := slices.Clone(room)
	l := room[:3]
	first, _ := almanac.Pack(l)
	want := slices.Clone(first)
	second, _ := almanac.Pack(l)
	second = second[:cap(second)]
	for i := range second {
		second[i] = 0xee
	}
	almanac.Pack(manyWords())
	if !slices.Equal(room, was) {
		t.Errorf("P2: Pack wrote into its list: %#v", room)
	}
	l[0].Text = "changed"
	if !bytes.Equal(first, want) {
		t.Errorf("P2: what Pack told has changed: %x", first)
	}
	l[0] = was[0]
	if again, f := almanac.Pack(l); !bytes.Equal(again, want) || f != api.OK {
		t.Errorf("P2: Pack of the same list: %x, then %x", want, again)
	}
}

// TestUnpackStaysApart: what is handed to Unpack is not written into, nor kept, and what it tells is new memory (P2).
func TestUnpackStaysApart(t *testing.T) {
	want := three()
	b, _ := almanac.Pack(want)
	room := append(slices.Clone(b), "spare room"...)
	was := slices.Clone(room)
	part := room[:len(b)]
	first, _ := almanac.Unpack(part)
	second, _ := almanac.Unpack(part)
	second = second[:cap(second)]
	for i := range second {
		second[i] = entry(9, 9, "mine")
	}
	almanac.Unpack(summed(lay(manyWords())))
	if !bytes.Equal(room, was) {
		t.Errorf("P2: Unpack wrote into its bytes: %x", room)
	}
	for i := range room {
		room[i] = '?'
	}
	if !slices.Equal(first, want) {
		t.Errorf("P2: what Unpack told has changed: %#v", first)
	}
	wantNoBytes(t, "written over", part)
	if again, f := almanac.Unpack(b); !slices.Equal(again, want) || f != api.OK {
		t.Errorf("P2: Unpack of the same bytes: %#v", again)
	}
}

// TestErrorsChangeNothing: what was refused leaves no trace in what is told next (P1, P2).
func TestErrorsChangeNothing(t *testing.T) {
	wantSegment(t, three())
	wantNoSegment(t, "a long text", []api.Entry{entry(0, 0, "a b"), entry(1, 0, strings.Repeat("x", api.MaxText+1))})
	wantSegment(t, three())
	wantNoBytes(t, "short", []byte{0, 1, 0})
	wantSegment(t, three())
}
