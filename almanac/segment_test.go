package almanac_test

import (
	"bytes"
	"encoding/binary"
	"encoding/hex"
	"hash/adler32"
	"maps"
	"math"
	"math/rand/v2"
	"slices"
	"strings"
	"testing"

	"almanac/almanac"
	"almanac/api"
)

func entry(seq, time int, text string) api.Entry { return api.Entry{Seq: seq, Time: time, Text: text} }

// someText: a text of n bytes, of which many are letters.
func someText(r *rand.Rand, n int) string {
	const often = "aabbAB01  --,"
	b := make([]byte, n)
	for i := range b {
		if b[i] = often[r.IntN(len(often))]; r.IntN(8) == 0 {
			b[i] = byte(r.IntN(256))
		}
	}
	return string(b)
}

// someSegment: a segment of n entries.
func someSegment(r *rand.Rand, n int) []api.Entry {
	var l []api.Entry
	seq, time := r.IntN(5), r.IntN(5)
	for range n {
		l = append(l, entry(seq, time, someText(r, r.IntN(api.MaxText+1))))
		seq += 1 + r.IntN(300)
		time += r.IntN(3) * r.IntN(70000)
	}
	return l
}

// word: a word in a segment's bytes, and the numbers of the entries that are said to have it.
type word struct {
	text string
	has  []byte
}

// wordsOf: the words of some entries as they must stand in a segment's bytes.
func wordsOf(l []api.Entry) []word {
	has := map[string][]byte{}
	for i, e := range l {
		for _, w := range naiveWords(e.Text) {
			has[w] = append(has[w], byte(i))
		}
	}
	var out []word
	for _, w := range slices.Sorted(maps.Keys(has)) {
		out = append(out, word{w, has[w]})
	}
	return out
}

// layWords: bytes as a segment's with these words, right or wrong, and a count of entries; without the sum.
func layWords(count int, l []api.Entry, words []word) []byte {
	b := binary.BigEndian.AppendUint16(nil, uint16(count))
	for _, e := range l {
		b = binary.BigEndian.AppendUint64(b, uint64(e.Seq))
		b = binary.BigEndian.AppendUint64(b, uint64(e.Time))
		b = append(b, byte(len(e.Text)))
		b = append(b, e.Text...)
	}
	b = binary.BigEndian.AppendUint16(b, uint16(len(words)))
	for _, w := range words {
		b = append(b, byte(len(w.text)))
		b = append(b, w.text...)
		b = append(b, byte(len(w.has)))
		b = append(b, w.has...)
	}
	return b
}

// lay: the bytes of a segment without the sum.
func lay(l []api.Entry) []byte { return layWords(len(l), l, wordsOf(l)) }

// summed: bytes, and their sum behind them.
func summed(b []byte) []byte {
	return binary.BigEndian.AppendUint32(slices.Clone(b), adler32.Checksum(b))
}

// wantSegment: l is packed as the document says, and comes back.
func wantSegment(t *testing.T, l []api.Entry) {
	t.Helper()
	want := summed(lay(l))
	if b, f := almanac.Pack(l); !bytes.Equal(b, want) || f != api.OK {
		t.Errorf("P6: Pack(%#v) = %.200x, %d, want %.200x", l, b, f, want)
	}
	if back, f := almanac.Unpack(want); !slices.Equal(back, l) || f != api.OK {
		t.Errorf("P7: Unpack(%.200x) = %#v, %d, want %#v", want, back, f, l)
	}
}

// wantNoSegment: Pack of these entries is ErrForm, and so is Unpack of the bytes that they would have.
func wantNoSegment(t *testing.T, what string, l []api.Entry) {
	t.Helper()
	if b, f := almanac.Pack(l); b != nil || f != api.ErrForm {
		t.Errorf("P6: %s: Pack = %.200x, %d", what, b, f)
	}
	wantNoBytes(t, what, summed(lay(l)))
}

func wantNoBytes(t *testing.T, what string, b []byte) {
	t.Helper()
	if l, f := almanac.Unpack(b); l != nil || f != api.ErrForm {
		t.Errorf("P7: %s: Unpack(%.200x) = %#v, %d", what, b, l, f)
	}
}

// TestExample: the document's example, to the byte.
func TestExample(t *testing.T) {
	want, err := hex.DecodeString("0001" + "0000000000000005" + "0000000000000007" + "03612d41" + "0001" + "01610100" + "08c70144")
	if err != nil {
		t.Fatal(err)
	}
	l := []api.Entry{entry(5, 7, "a-A")}
	if b, f := almanac.Pack(l); !bytes.Equal(b, want) || f != api.OK {
		t.Errorf("P6: Pack = %x, %d, want %x", b, f, want)
	}
	if back, f := almanac.Unpack(want); !slices.Equal(back, l) || f != api.OK {
		t.Errorf("P7: Unpack = %#v, %d", back, f)
	}
}

// fullTexts: texts of MaxText bytes that repeat c, as many as a segment may have.
func fullTexts(c string) []api.Entry {
	l := make([]api.Entry, api.MaxEntries)
	for i := range l {
		l[i] = entry(api.MaxNumber-api.MaxEntries+1+i, api.MaxNumber, strings.Repeat(c, api.MaxText)[:api.MaxText])
	}
	return l
}

// manyWords: a segment with so many words that one byte does not tell how many.
func manyWords() []api.Entry {
	const digits = "0123456789abcdefghijklmnopqrstuvwxyz"
	l := make([]api.Entry, api.MaxEntries)
	for i := range l {
		var text strings.Builder
		for j := range api.MaxText / 3 {
			n := (i*(api.MaxText/3) + j) * 7 % 1296
			text.WriteString(digits[n/36:n/36+1] + digits[n%36:n%36+1] + " ")
		}
		l[i] = entry(i, i/3, text.String())
	}
	return l
}

func TestSegments(t *testing.T) {
	for _, l := range [][]api.Entry{
		{entry(0, 0, "")},
		{entry(0, 0, "a")},
		{entry(api.MaxNumber, api.MaxNumber, "A b")},
		{entry(api.MaxNumber, 0, "")},
		{entry(0, api.MaxNumber, "")},
		{entry(0x0102030405, 0x0908070605, "far")},
		{entry(1, 5, "b ab"), entry(2, 5, "AB"), entry(9, 6, "-"), entry(10, 900, "a B ab")},
		{entry(0, 0, "\x00\xff\xfe"), entry(1, 0, "é1")},
		{entry(3, 3, strings.Repeat("w", api.MaxText))},
		{entry(3, 3, strings.Repeat("w", api.MaxText)), entry(4, 3, strings.Repeat("W", api.MaxText-1))},
		fullTexts("\xff"), fullTexts("\x00"), fullTexts("z"), fullTexts("a "),
		manyWords(),
	} {
		wantSegment(t, l)
	}
	if n := len(wordsOf(manyWords())); n < 1000 {
		t.Errorf("the test has %d words only", n)
	}
}

func TestSegmentsByChance(t *testing.T) {
	r := rand.New(rand.NewPCG(7, 8))
	for i := range 400 {
		wantSegment(t, someSegment(r, 1+i%api.MaxEntries))
	}
}

func TestEntriesThatAreNoSegment(t *testing.T) {
	wantNoSegment(t, "nil", nil)
	wantNoSegment(t, "empty", []api.Entry{})
	long := make([]api.Entry, 70000)
	for i := range long {
		long[i].Seq = i
	}
	for _, n := range []int{api.MaxEntries + 1, api.MaxEntries + 2, 255, 256, 257, 300, 65536 + 1, 70000} {
		wantNoSegment(t, "too many entries", long[:n])
	}
	for _, n := range []int{math.MinInt, -1 << 32, -api.MaxNumber, -256, -1, api.MaxNumber + 1, 1 << 62, math.MaxInt} {
		wantNoSegment(t, "a Seq that may not be", []api.Entry{entry(n, 0, "a")})
		wantNoSegment(t, "a Time that may not be", []api.Entry{entry(0, n, "a")})
	}
	for _, n := range []int{api.MaxText + 1, 200, 255, 256, 256 + api.MaxText, 100000} {
		wantNoSegment(t, "a text that is too long", []api.Entry{entry(0, 0, strings.Repeat("-", n))})
		wantNoSegment(t, "a text with a word that is too long", []api.Entry{entry(0, 0, strings.Repeat("x", n))})
	}
}

// TestEntriesThatSpoilASegment: one entry, at any place, that may not stand there.
func TestEntriesThatSpoilASegment(t *testing.T) {
	for _, n := range []int{1, 2, 3, 7, api.MaxEntries} {
		for at := range n {
			spoil := func(what string, change func(e *api.Entry)) {
				t.Helper()
				l := make([]api.Entry, n)
				for i := range l {
					l[i] = entry(10+2*i, 10+i/2*2, "Some words")
				}
				wantSegment(t, l)
				change(&l[at])
				wantNoSegment(t, what, l)
			}
			spoil("a long text", func(e *api.Entry) { e.Text = strings.Repeat("?", api.MaxText+1) })
			spoil("a Seq below 0", func(e *api.Entry) { e.Seq = -1 })
			spoil("a Time below 0", func(e *api.Entry) { e.Time = -1 })
			spoil("a Seq above MaxNumber", func(e *api.Entry) { e.Seq = api.MaxNumber + 1 })
			spoil("a Time above MaxNumber", func(e *api.Entry) { e.Time = api.MaxNumber + 1 })
			if at > 0 {
				spoil("the same Seq", func(e *api.Entry) { e.Seq -= 2 })
				spoil("a lesser Seq", func(e *api.Entry) { e.Seq -= 3 })
				spoil("a lesser Time", func(e *api.Entry) { e.Time = 9 + (at-1)/2*2 })
			}
			if at < n-1 {
				spoil("a Seq as the next one", func(e *api.Entry) { e.Seq += 2 })
				spoil("a Time above the next one", func(e *api.Entry) { e.Time = 11 + (at+1)/2*2 })
			}
		}
	}
}
