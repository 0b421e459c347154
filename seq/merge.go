package seq

import (
	"iter"
	"slices"
)

// Merge: see the chapter. To a nil less none is less than another.
func Merge[T any](less func(a, b T) bool, ls ...[]T) iter.Seq[T] {
	if less == nil {
		less = func(a, b T) bool { return false }
	}
	var own [][]T
	for _, l := range ls {
		if len(l) > 0 {
			own = append(own, slices.Clone(l))
		}
	}
	return func(yield func(T) bool) {
		left := slices.Clone(own)
		for len(left) > 0 {
			k := next(less, left)
			if !yield(left[k][0]) {
				return
			}
			left[k] = left[k][1:]
			if len(left[k]) == 0 {
				left = slices.Delete(left, k, k+1)
			}
		}
	}
}

// next is the list whose first one comes next; none of left is empty. That is
// low, where less puts all in one row. Where it does not, a list ahead of low
// may have a first one that is neither less nor greater than low's, and comes
// first. A less that goes in a ring has no such list: then low's comes, so
// that none is lost.
func next[T any](less func(a, b T) bool, left [][]T) int {
	low := lowest(less, left)
	for k, l := range left {
		// Asked first, since it spares going through all of them for each k.
		if k != low && less(left[low][0], l[0]) {
			continue
		}
		if !undercut(less, left, k) {
			return k
		}
	}
	return low
}

// lowest is the list that is left standing when each in its turn is held
// against the lowest one so far.
func lowest[T any](less func(a, b T) bool, left [][]T) int {
	low := 0
	for k := 1; k < len(left); k++ {
		if less(left[k][0], left[low][0]) {
			low = k
		}
	}
	return low
}

// undercut says whether another list's first one is less than that of list k.
func undercut[T any](less func(a, b T) bool, left [][]T, k int) bool {
	for j, l := range left {
		if j != k && less(l[0], left[k][0]) {
			return true
		}
	}
	return false
}
