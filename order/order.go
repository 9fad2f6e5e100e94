// Package order: sorted lists of anything that has an order: see DOC.md.
package order

import (
	"cmp"
	"slices"
)

// Merge tells all that stands in some lists, rising, each once (P3).
func Merge[T cmp.Ordered](lists ...[]T) []T {
	l := slices.Concat(lists...)
	slices.Sort(l)
	return slices.Compact(l)
}

// Common tells what stands in both lists, rising, each once (P3).
func Common[T cmp.Ordered](a, b []T) []T {
	a, b = Merge(a), Merge(b)
	var both []T
	for len(a) > 0 && len(b) > 0 {
		switch c := cmp.Compare(a[0], b[0]); {
		case c < 0:
			a = a[1:]
		case c > 0:
			b = b[1:]
		default:
			both = append(both, a[0])
			a, b = a[1:], b[1:]
		}
	}
	return both
}
