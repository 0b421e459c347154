package omap

import (
	"cmp"
	"testing"
)

// sound asks of each node whether its size is right and its sides in balance.
func sound(t *testing.T, n *node[int, int]) {
	t.Helper()
	if n == nil {
		return
	}
	left, right := n.left.weight(), n.right.weight()
	if n.size != left+right-1 {
		t.Fatalf("a size is %d, of sides that weigh %d and %d", n.size, left, right)
	}
	if left > heavy*right || right > heavy*left {
		t.Fatalf("sides weigh %d and %d", left, right)
	}
	sound(t, n.left)
	sound(t, n.right)
}

// All ways in which up to seven keys come, and then each one goes first.
func TestBalanceOfSmallMaps(t *testing.T) {
	const most = 7
	var come func(m Map[int, int], left int)
	come = func(m Map[int, int], left int) {
		sound(t, m.root)
		for k := range most {
			// A copy has a root of its own, and nodes are never written into.
			with, without := m, m
			if left>>k&1 == 1 && with.Put(k, 0) {
				come(with, left&^(1<<k))
			}
			without.Del(k)
			sound(t, without.root)
		}
	}
	come(*New[int, int](cmp.Compare[int]), 1<<most-1)
}

func TestBalanceOfManyChanges(t *testing.T) {
	for seed := range uint64(8) {
		m, x := New[int, int](cmp.Compare[int]), seed
		for i := range 3000 {
			x = x*6364136223846793005 + 1442695040888963407
			k := int(x>>33) % 400
			// It grows, shrinks, and grows again; of some seeds from one end on.
			if seed%2 == 1 {
				k = i % 400
			}
			if i/700%2 == 0 {
				m.Put(k, i)
			} else {
				m.Del(k)
			}
			if i%10 == 0 {
				sound(t, m.root)
			}
		}
		sound(t, m.root)
	}
}
