package omap

// A node has the keys below its own on the left, those above on the right. The
// balance hangs on how many these are, which At and Rank need in any case:
// no side is more than three times as heavy as the other, so that no way from
// the root is longer than some two and a half times the logarithm of size.
type node[K, V any] struct {
	key         K
	val         V
	size        int
	left, right *node[K, V]
}

// Of whole numbers these are the two with which one turn always mends what one
// more or one fewer has put out of balance (Hirai and Yamamoto, "Balancing
// weight-balanced trees", 2011).
const (
	heavy  = 3 // so many times as heavy as the other one a side may be
	single = 2 // below so many times the outer part a single turn is enough for the inner
)

// count: of nil, which has none, too.
func (n *node[K, V]) count() int {
	if n == nil {
		return 0
	}
	return n.size
}

// weight is never 0, so that no side is endlessly heavier than an empty one.
func (n *node[K, V]) weight() int { return n.count() + 1 }

// find: see Map's.
func (n *node[K, V]) find(compare func(a, b K) int, k K) (*node[K, V], int) {
	below := 0
	for n != nil {
		order := compare(k, n.key)
		if order < 0 {
			n = n.left
			continue
		}
		below += n.left.count()
		if order == 0 {
			return n, below
		}
		below++
		n = n.right
	}
	return nil, below
}

// at is the i-th one; nil: none.
func (n *node[K, V]) at(i int) *node[K, V] {
	for n != nil {
		left := n.left.count()
		if i == left {
			return n
		}
		if i < left {
			n = n.left
			continue
		}
		i -= left + 1
		n = n.right
	}
	return nil
}

// walk yields all in order; false: it was left.
func (n *node[K, V]) walk(yield func(K, V) bool) bool {
	return n == nil || n.left.walk(yield) && yield(n.key, n.val) && n.right.walk(yield)
}

// put is n in which k has v; a like key that is there stays.
func (n *node[K, V]) put(compare func(a, b K) int, k K, v V) *node[K, V] {
	if n == nil {
		return &node[K, V]{key: k, val: v, size: 1}
	}
	order := compare(k, n.key)
	if order < 0 {
		return n.balanced(n.left.put(compare, k, v), n.right)
	}
	if order > 0 {
		return n.balanced(n.left, n.right.put(compare, k, v))
	}
	return &node[K, V]{key: n.key, val: v, size: n.size, left: n.left, right: n.right}
}

// without is n but for the one that is like k.
func (n *node[K, V]) without(compare func(a, b K) int, k K) *node[K, V] {
	if n == nil {
		return nil
	}
	order := compare(k, n.key)
	if order < 0 {
		return n.balanced(n.left.without(compare, k), n.right)
	}
	if order > 0 {
		return n.balanced(n.left, n.right.without(compare, k))
	}
	return glued(n.left, n.right)
}

// glued is left and right, all of which are above all of left, in one. The one
// that has more gives what comes between them, so that the balance holds.
func glued[K, V any](left, right *node[K, V]) *node[K, V] {
	if left.count() > right.count() {
		last := left.at(left.count() - 1)
		return last.balanced(left.withoutLast(), right)
	}
	if right == nil {
		return nil
	}
	return right.at(0).balanced(left, right.withoutFirst())
}

// withoutFirst is n, which is not nil, but for its first one.
func (n *node[K, V]) withoutFirst() *node[K, V] {
	if n.left == nil {
		return n.right
	}
	return n.balanced(n.left.withoutFirst(), n.right)
}

// withoutLast is n, which is not nil, but for its last one.
func (n *node[K, V]) withoutLast() *node[K, V] {
	if n.right == nil {
		return n.left
	}
	return n.balanced(n.left, n.right.withoutLast())
}

// beside is what n keeps, and other sides.
func (n *node[K, V]) beside(left, right *node[K, V]) *node[K, V] {
	return &node[K, V]{n.key, n.val, left.count() + 1 + right.count(), left, right}
}

// balanced is as beside, turned where a side has grown too heavy.
func (n *node[K, V]) balanced(left, right *node[K, V]) *node[K, V] {
	if right.weight() > heavy*left.weight() {
		return n.turnedLeft(left, right)
	}
	if left.weight() > heavy*right.weight() {
		return n.turnedRight(left, right)
	}
	return n.beside(left, right)
}

// turnedLeft has right, or its own left one, at the top.
func (n *node[K, V]) turnedLeft(left, right *node[K, V]) *node[K, V] {
	inner, outer := right.left, right.right
	if inner.weight() < single*outer.weight() {
		return right.beside(n.beside(left, inner), outer)
	}
	return inner.beside(n.beside(left, inner.left), right.beside(inner.right, outer))
}

// turnedRight has left, or its own right one, at the top.
func (n *node[K, V]) turnedRight(left, right *node[K, V]) *node[K, V] {
	outer, inner := left.left, left.right
	if inner.weight() < single*outer.weight() {
		return left.beside(outer, n.beside(inner, right))
	}
	return inner.beside(left.beside(outer, inner.left), n.beside(inner.right, right))
}
