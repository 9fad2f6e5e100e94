package order

import "cmp"

// Set is a set.
type Set[T cmp.Ordered] struct{ root *node[T] }

// Add puts something in; was it not there? (P4)
func (s *Set[T]) Add(x T) bool {
	if s.Has(x) {
		return false
	}
	s.root = s.root.with(x)
	return true
}

// Has tells whether something is there (P4).
func (s *Set[T]) Has(x T) bool {
	n := s.root
	for n != nil {
		switch c := cmp.Compare(x, n.item); {
		case c < 0:
			n = n.left
		case c > 0:
			n = n.right
		default:
			return true
		}
	}
	return false
}

// Len tells how many there are (P4).
func (s *Set[T]) Len() int { return s.root.size() }

// At tells the i-th, rising (P4).
func (s *Set[T]) At(i int) (T, bool) {
	if i < 0 || i >= s.Len() {
		var none T
		return none, false
	}
	n := s.root
	for i != n.left.size() {
		if i < n.left.size() {
			n = n.left
		} else {
			i -= n.left.size() + 1
			n = n.right
		}
	}
	return n.item, true
}

// Between tells all from lo to hi, rising (P4).
func (s *Set[T]) Between(lo, hi T) []T { return s.root.between(nil, lo, hi) }
