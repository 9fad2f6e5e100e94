package almanac

import (
	"slices"
	"strings"

	"almanac/api"
	"almanac/order"
)

// Words tells the words of a text (P5).
func Words(text string) []string {
	b := []byte(text)
	for i, c := range b {
		b[i] = small(c)
	}
	return order.Merge(strings.Fields(string(b)))
}

// small: a letter as a small one, a digit as it is, and of every other byte a space: none of those is part of a word.
func small(c byte) byte {
	switch {
	case 'A' <= c && c <= 'Z':
		return c - 'A' + 'a'
	case 'a' <= c && c <= 'z', '0' <= c && c <= '9':
		return c
	}
	return ' '
}

// isWord: may a text have this word?
func isWord(word string) bool {
	return len(word) <= api.MaxText && slices.Equal(Words(word), []string{word})
}
