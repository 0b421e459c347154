package omap_test

import (
	"slices"
	"testing"

	"asterism/omap"
)

// whims has what orders nothing.
func whims() map[string]func(a, b int) int {
	asked := 0
	return map[string]func(a, b int) int{
		"always below": func(a, b int) int { return -1 },
		"always above": func(a, b int) int { return 1 },
		"always like":  func(a, b int) int { return 0 },
		"a ring":       func(a, b int) int { return (a-b+30)%3 - 1 },
		"other each time": func(a, b int) int {
			asked++
			return asked*7%5 - 2
		},
	}
}

// Whatever compare says, each call ends, and what is told agrees.
func TestCompareThatIsNoOrder(t *testing.T) {
	for name, compare := range whims() {
		m := omap.New[int, string](compare)
		x, n := uint64(1), 0
		for i := range 2000 {
			k := next(&x, 20)
			if i%3 < 2 && m.Put(k, text(i)) {
				n++
			}
			if i%3 == 2 && m.Del(k) {
				n--
			}
			m.Get(k)
			if below := m.Rank(k); below < 0 || below > n {
				t.Fatalf("P0.1, %s: Rank: %d of %d", name, below, n)
			}
			if m.Len() != n {
				t.Fatalf("P4.1, %s: Len: %d, not %d", name, m.Len(), n)
			}
		}
		l := listed(m)
		if len(l) != n {
			t.Fatalf("P4.1, %s: All has %d, not %d", name, len(l), n)
		}
		for i, want := range l {
			if k, v, ok := m.At(i); (pair{k, v}) != want || !ok {
				t.Fatalf("P4.1, %s: At(%d): %d, %q, %v", name, i, k, v, ok)
			}
		}
	}
}

// failing is up, but that it panics the n-th time that it is asked; 0: never.
func failing(n *int) func(a, b int) int {
	return func(a, b int) int {
		if *n--; *n == 0 {
			panic("no order")
		}
		return up(a, b)
	}
}

// A compare that panics makes no call panic, and leaves all as it was.
func TestCompareThatPanics(t *testing.T) {
	left := 0
	m, p := omap.New[int, string](failing(&left)), &plain{compare: up}
	for i := range 50 {
		m.Put(i*3%50, text(i))
		p.put(i*3%50, text(i))
	}
	for _, k := range []int{-1, 0, 24, 49, 50} {
		for name, call := range map[string]func(){
			"Put": func() {
				if m.Put(k, "new") {
					t.Errorf("P0.1: Put(%d): it is new", k)
				}
			},
			"Del": func() {
				if m.Del(k) {
					t.Errorf("P0.1: Del(%d): it was there", k)
				}
			},
			"Get": func() {
				if v, ok := m.Get(k); v != "" || ok {
					t.Errorf("P0.1: Get(%d): %q, %v", k, v, ok)
				}
			},
			"Rank": func() {
				if below := m.Rank(k); below != 0 {
					t.Errorf("P0.1: Rank(%d): %d", k, below)
				}
			},
		} {
			for stop := 1; stop <= 3; stop++ {
				left = stop
				call()
				if left != 0 {
					t.Errorf("P0.1: %s(%d) goes on when compare has panicked", name, k)
				}
			}
			left = 0
			same(t, m, p, 50)
		}
	}
}

// What a loop over All panics with is the loop's own.
func TestAllLetsTheLoopPanic(t *testing.T) {
	m := of(up, 1, 2, 3)
	defer func() {
		if r := recover(); r != "mine" {
			t.Errorf("the loop's panic is %v", r)
		}
	}()
	for range m.All() {
		panic("mine")
	}
}

// In whatever order keys come and go, each call asks few of them, of 2^17.
func TestMany(t *testing.T) {
	const n, most = 1 << 17, 45
	for name, key := range map[string]func(i int) int{
		"rising":  func(i int) int { return i },
		"falling": func(i int) int { return n - 1 - i },
		"mixed":   func(i int) int { return i * 40503 % n },
		"inwards": func(i int) int { return (i>>1 ^ -(i & 1)) & (n - 1) },
	} {
		asked, worst := 0, 0
		m := omap.New[int, int](func(a, b int) int {
			asked++
			return up(a, b)
		})
		count := func(ok bool) {
			if !ok {
				t.Fatalf("P4.1, %s: of many", name)
			}
			worst, asked = max(worst, asked), 0
		}
		for i := range n {
			count(m.Put(key(i), i))
		}
		for i := range n {
			v, ok := m.Get(key(i))
			count(ok && v == i)
			count(m.Rank(key(i)) == key(i))
		}
		for i := 0; i < n; i += 2 {
			count(m.Del(key(i)))
		}
		for i := 1; i < n; i += 2 {
			count(m.Del(key(i)) && m.Len() == (n-1-i)/2)
		}
		if worst > most {
			t.Errorf("P0.1, %s: %d are asked in one call", name, worst)
		}
	}
}

// The order hangs on compare alone, not on the order in which keys came.
func TestOrderOfComing(t *testing.T) {
	want := []pair{{0, text(0)}, {1, text(1)}, {2, text(2)}, {3, text(3)}, {4, text(4)}}
	var all func(keys []int, k int)
	all = func(keys []int, k int) {
		if k == len(keys) {
			if got := listed(of(up, keys...)); !slices.Equal(got, want) {
				t.Errorf("P4.1: All of %v: %v", keys, got)
			}
			return
		}
		for i := k; i < len(keys); i++ {
			keys[k], keys[i] = keys[i], keys[k]
			all(keys, k+1)
			keys[k], keys[i] = keys[i], keys[k]
		}
	}
	all([]int{0, 1, 2, 3, 4}, 0)
}
