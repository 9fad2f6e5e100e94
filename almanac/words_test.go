package almanac_test

import (
	"math/rand/v2"
	"regexp"
	"slices"
	"strings"
	"testing"

	"almanac/almanac"
	"almanac/api"
)

var run = regexp.MustCompile(`[A-Za-z0-9]+`)

// naiveWords: the words of a text, by an expression over its bytes (each as a rune of its own, so that none of them joins another).
func naiveWords(text string) []string {
	var one strings.Builder
	for i := range len(text) {
		one.WriteRune(rune(text[i]))
	}
	l := run.FindAllString(one.String(), -1)
	for i := range l {
		l[i] = strings.ToLower(l[i])
	}
	slices.Sort(l)
	return slices.Compact(l)
}

func TestWords(t *testing.T) {
	for _, c := range []struct {
		text string
		want []string
	}{
		{"", nil},
		{" ", nil},
		{"-", nil},
		{"...---...", nil},
		{"a", []string{"a"}},
		{"Z", []string{"z"}},
		{"0", []string{"0"}},
		{"Disk 2 is FULL: disk-2", []string{"2", "disk", "full", "is"}},
		{"é1", []string{"1"}},
		{"café au lait", []string{"au", "caf", "lait"}},
		{"b a", []string{"a", "b"}},
		{"a A a", []string{"a"}},
		{"aA", []string{"aa"}},
		{"a1b2 a1 b2", []string{"a1", "a1b2", "b2"}},
		{"10 9 a Z 100 1", []string{"1", "10", "100", "9", "a", "z"}},
		{" lead trail ", []string{"lead", "trail"}},
		{"x_y", []string{"x", "y"}},
		{"don't", []string{"don", "t"}},
		{"tab\tline\nnull\x00end", []string{"end", "line", "null", "tab"}},
		{"/0:9@A[Z`a{z", []string{"0", "9", "a", "z"}},
		{"azAZ09", []string{"azaz09"}},
		{"\xff\xfea\x80b", []string{"a", "b"}},
		{"É\u017f\u212a\u0130\u0663Ａ", nil}, // letters and a digit, but none of these
		{"s\u017fs k\u212ak", []string{"k", "s"}},
	} {
		if l := almanac.Words(c.text); !slices.Equal(l, c.want) {
			t.Errorf("P5: Words(%q) = %q, want %q", c.text, l, c.want)
		}
	}
}

// TestWordsOfEveryByte: each byte alone, within a word, and between words.
func TestWordsOfEveryByte(t *testing.T) {
	for i := range 256 {
		for _, text := range []string{string([]byte{byte(i)}), string([]byte{'q', byte(i), 'p'}), string([]byte{' ', byte(i), byte(i), '7'})} {
			if l := almanac.Words(text); !slices.Equal(l, naiveWords(text)) {
				t.Errorf("P5: Words(%q) = %q, want %q", text, l, naiveWords(text))
			}
		}
	}
}

func TestWordsByChance(t *testing.T) {
	r := rand.New(rand.NewPCG(5, 6))
	for range 3000 {
		text := someText(r, r.IntN(api.MaxText+1))
		if l := almanac.Words(text); !slices.Equal(l, naiveWords(text)) {
			t.Errorf("P5: Words(%q) = %q, want %q", text, l, naiveWords(text))
		}
	}
}

// TestWordsOfLongTexts: a text may be longer than one that is laid down, and so may its runs be (P1, P5).
func TestWordsOfLongTexts(t *testing.T) {
	for _, n := range []int{api.MaxText - 1, api.MaxText, api.MaxText + 1, 255, 256, 100000} {
		text := strings.Repeat("X", n)
		if l := almanac.Words(text); !slices.Equal(l, []string{strings.ToLower(text)}) {
			t.Errorf("P5: Words of a run of %d: %d words", n, len(l))
		}
		if l := almanac.Words(strings.Repeat("b, A! ", n)); !slices.Equal(l, []string{"a", "b"}) {
			t.Errorf("P5: Words of two words %d times: %d words", n, len(l))
		}
		if l := almanac.Words(strings.Repeat("\xff", n)); len(l) != 0 {
			t.Errorf("P5: Words of %d other bytes: %q", n, l)
		}
	}
}

// TestWordsStayApart: what Words told is new memory, and hangs on the text alone (P2).
func TestWordsStayApart(t *testing.T) {
	const text = "one Two three"
	want := []string{"one", "three", "two"}
	first, second := almanac.Words(text), almanac.Words(text)
	second = second[:cap(second)]
	for i := range second {
		second[i] = "mine"
	}
	almanac.Words("other words at all")
	if !slices.Equal(first, want) || !slices.Equal(almanac.Words(text), want) {
		t.Errorf("P2: Words(%q) = %q, and now %q", text, first, almanac.Words(text))
	}
}
