package order

import "cmp"

// A side of a node may be sideWeight times as heavy as the other; of a side that is too heavy the inner part must be lighter
// than innerWeight times the outer one, or it is split. With just these two numbers every tree stays low, whatever the order
// in which the items come.
const (
	sideWeight  = 3
	innerWeight = 2
)

// node: what is less stands left of it, what is greater right. No node is written into once it is made: so two sets never
// have to do with one another, even where one began as a copy of the other.
type node[T cmp.Ordered] struct {
	item        T
	count       int
	left, right *node[T]
}

// size: how many items there are from this node down.
func (n *node[T]) size() int {
	if n == nil {
		return 0
	}
	return n.count
}

// with: the tree with x, which is not in it yet.
func (n *node[T]) with(x T) *node[T] {
	if n == nil {
		return join(nil, x, nil)
	}
	if cmp.Less(x, n.item) {
		return balance(n.left.with(x), n.item, n.right)
	}
	return balance(n.left, n.item, n.right.with(x))
}

// between: l, and behind it the items from lo to hi.
func (n *node[T]) between(l []T, lo, hi T) []T {
	if n == nil {
		return l
	}
	above, below := cmp.Compare(n.item, lo), cmp.Compare(n.item, hi)
	if above > 0 {
		l = n.left.between(l, lo, hi)
	}
	if above >= 0 && below <= 0 {
		l = append(l, n.item)
	}
	if below < 0 {
		l = n.right.between(l, lo, hi)
	}
	return l
}

// join: a node of two sides as they are.
func join[T cmp.Ordered](left *node[T], item T, right *node[T]) *node[T] {
	return &node[T]{item: item, count: left.size() + 1 + right.size(), left: left, right: right}
}

// balance: a node of two sides, of which one may have become too heavy by one item.
func balance[T cmp.Ordered](left *node[T], item T, right *node[T]) *node[T] {
	l, r := left.size(), right.size()
	switch {
	case l+r < 2: // a single item beside nothing is no burden
		return join(left, item, right)
	case r > sideWeight*l:
		return turnLeft(left, item, right)
	case l > sideWeight*r:
		return turnRight(left, item, right)
	}
	return join(left, item, right)
}

// turnLeft: the right side is too heavy: its top becomes the top, or, if its inner part is the burden, the top of that.
func turnLeft[T cmp.Ordered](left *node[T], item T, right *node[T]) *node[T] {
	inner := right.left
	if inner.size() < innerWeight*right.right.size() {
		return join(join(left, item, inner), right.item, right.right)
	}
	return join(join(left, item, inner.left), inner.item, join(inner.right, right.item, right.right))
}

// turnRight: the same from the other side.
func turnRight[T cmp.Ordered](left *node[T], item T, right *node[T]) *node[T] {
	inner := left.right
	if inner.size() < innerWeight*left.left.size() {
		return join(left.left, left.item, join(inner, item, right))
	}
	return join(join(left.left, left.item, inner.left), inner.item, join(inner.right, item, right))
}
