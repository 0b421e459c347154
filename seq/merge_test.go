package seq_test

import (
	"slices"
	"testing"

	"asterism/seq"
)

// row is one of a list: what it is ordered by, and where it stood.
type row struct{ key, list, at int }

func byKey(a, b row) bool { return a.key < b.key }

// divides orders some keys but not all: 3 is neither less than 2 nor than 4,
// and neither of these is less than 3, yet 2 is less than 4.
func divides(a, b row) bool { return a.key < b.key && b.key%a.key == 0 }

// dividesOrLike holds one to be less than itself, which Merge doesn't ask.
func dividesOrLike(a, b row) bool { return b.key%a.key == 0 }

// marked has a row for each key, marked with its place.
func marked(ls ...[]int) [][]row {
	rows := make([][]row, len(ls))
	for k, l := range ls {
		for i, key := range l {
			rows[k] = append(rows[k], row{key, k, i})
		}
	}
	return rows
}

// chosen is the first list of left than whose first one no other's is less.
func chosen(less func(a, b row) bool, left [][]row) int {
	for k, l := range left {
		good := len(l) > 0
		for j, other := range left {
			if good && j != k && len(other) > 0 && less(other[0], l[0]) {
				good = false
			}
		}
		if good {
			return k
		}
	}
	return -1
}

// merged is what the chapter's sentence makes of the lists, word by word.
func merged(less func(a, b row) bool, ls [][]row) []row {
	var all []row
	left := slices.Clone(ls)
	for k := chosen(less, left); k >= 0; k = chosen(less, left) {
		all = append(all, left[k][0])
		left[k] = left[k][1:]
	}
	return all
}

// inOrder says that no one of l is less than the one ahead of it.
func inOrder(less func(a, b row) bool, l []int) bool {
	for i := 1; i < len(l); i++ {
		if less(row{key: l[i]}, row{key: l[i-1]}) {
			return false
		}
	}
	return true
}

// lists has all lists in order of up to n keys, each one of 1 to most.
func lists(less func(a, b row) bool, n, most int) [][]int {
	all := [][]int{nil}
	for from := 0; n > 0; n-- {
		till := len(all)
		for _, l := range all[from:till] {
			for key := 1; key <= most; key++ {
				if longer := append(slices.Clone(l), key); inOrder(less, longer) {
					all = append(all, longer)
				}
			}
		}
		from = till
	}
	return all
}

func TestMerge(t *testing.T) {
	for _, x := range []struct {
		name string
		ls   [][]int
		want []row
	}{
		{"none", nil, nil},
		{"an empty one", [][]int{{}}, nil},
		{"empty ones", [][]int{nil, {}, nil}, nil},
		{"one list", [][]int{{1, 2, 2, 5}}, []row{{1, 0, 0}, {2, 0, 1}, {2, 0, 2}, {5, 0, 3}}},
		{"an empty one among others", [][]int{{2}, {}, {1}, nil}, []row{{1, 2, 0}, {2, 0, 0}}},
		{"one behind the other", [][]int{{3, 4}, {1, 2}}, []row{{1, 1, 0}, {2, 1, 1}, {3, 0, 0}, {4, 0, 1}}},
		{"in and out", [][]int{{1, 4}, {2, 5}, {3, 6}}, []row{{1, 0, 0}, {2, 1, 0}, {3, 2, 0}, {4, 0, 1}, {5, 1, 1}, {6, 2, 1}}},
		{"like ones first", [][]int{{1, 1}, {1}, {1, 1}}, []row{{1, 0, 0}, {1, 0, 1}, {1, 1, 0}, {1, 2, 0}, {1, 2, 1}}},
		{"like ones behind", [][]int{{2, 2}, {1, 2}, {2}}, []row{{1, 1, 0}, {2, 0, 0}, {2, 0, 1}, {2, 1, 1}, {2, 2, 0}}},
		{"like ones after a lesser list", [][]int{{3}, {2}, {1, 2}, {2}}, []row{{1, 2, 0}, {2, 1, 0}, {2, 2, 1}, {2, 3, 0}, {3, 0, 0}}},
	} {
		m := seq.Merge(byKey, marked(x.ls...)...)
		for range 2 {
			if got := seq.List(m); !slices.Equal(got, x.want) {
				t.Errorf("P3.1: Merge of %s: %v, not %v", x.name, got, x.want)
			}
		}
	}
}

// Of a less that leaves some side by side, the word of the chapter holds too.
func TestMergeSideBySide(t *testing.T) {
	for _, x := range []struct {
		ls   [][]int
		want []row
	}{
		{[][]int{{4}, {3}, {2}}, []row{{3, 1, 0}, {2, 2, 0}, {4, 0, 0}}},
		{[][]int{{3}, {4}, {2}}, []row{{3, 0, 0}, {2, 2, 0}, {4, 1, 0}}},
		{[][]int{{4}, {9}, {2}, {3}}, []row{{2, 2, 0}, {4, 0, 0}, {3, 3, 0}, {9, 1, 0}}},
		{[][]int{{6, 5}, {4}, {3, 2}}, []row{{4, 1, 0}, {3, 2, 0}, {2, 2, 1}, {6, 0, 0}, {5, 0, 1}}},
	} {
		for name, less := range map[string]func(a, b row) bool{"divides": divides, "or like": dividesOrLike} {
			if got := seq.List(seq.Merge(less, marked(x.ls...)...)); !slices.Equal(got, x.want) {
				t.Errorf("P3.1: Merge of %v where less says %s: %v, not %v", x.ls, name, got, x.want)
			}
		}
	}
}

func TestMergeOfAllSmallLists(t *testing.T) {
	for name, less := range map[string]func(a, b row) bool{"by key": byKey, "by what divides": divides} {
		all := lists(less, 2, 4)
		for _, a := range all {
			for _, b := range all {
				for _, c := range all {
					ls := marked(a, b, c)
					if got, want := seq.List(seq.Merge(less, ls...)), merged(less, ls); !slices.Equal(got, want) {
						t.Fatalf("P3.1: Merge %s of %v, %v, %v: %v, not %v", name, a, b, c, got, want)
					}
				}
			}
		}
	}
}

func TestMergeLeftAndBegunAgain(t *testing.T) {
	asked := 0
	less := func(a, b row) bool {
		asked++
		return byKey(a, b)
	}
	ls := marked([]int{1, 4, 4}, []int{2, 4}, []int{3})
	want := merged(byKey, ls)
	m := seq.Merge(less, ls...)
	if asked != 0 {
		t.Errorf("P3.1: less is asked %d times before Merge is ranged over", asked)
	}
	for stop := 1; stop <= len(want); stop++ {
		var got []row
		then := 0
		for x := range m {
			if got = append(got, x); len(got) == stop {
				then = asked
				break
			}
		}
		if !slices.Equal(got, want[:stop]) {
			t.Errorf("P3.1: Merge, left at %d: %v, not %v", stop, got, want[:stop])
		}
		if asked != then {
			t.Errorf("P3.1: Merge, left at %d: less is asked %d times more", stop, asked-then)
		}
	}
	for range m {
		if got := seq.List(m); !slices.Equal(got, want) {
			t.Errorf("P3.1: Merge, within itself: %v, not %v", got, want)
		}
	}
}

func TestMergeKeepsNoList(t *testing.T) {
	room := []int{1, 3, 70, 80}
	ls := [][]int{room[:2], {2, 4}, {}}
	m := seq.Merge(func(a, b int) bool { return a < b }, ls...)
	seq.List(m)
	if !slices.Equal(room, []int{1, 3, 70, 80}) || len(ls) != 3 || !slices.Equal(ls[0], room[:2]) || !slices.Equal(ls[1], []int{2, 4}) {
		t.Errorf("P0.3: Merge changes its lists: %v, %v", room, ls)
	}
	room[0], room[2], ls[1] = 9, 9, nil
	if got := seq.List(m); !slices.Equal(got, []int{1, 2, 3, 4}) {
		t.Errorf("P0.3: Merge keeps its lists: %v", got)
	}
}

// Whatever less says, Merge ends and has each one of each list, in that list's
// order.
func TestMergeWithAnyLess(t *testing.T) {
	for name, less := range map[string]func(a, b row) bool{
		"always":  func(a, b row) bool { return true },
		"never":   func(a, b row) bool { return false },
		"or like": func(a, b row) bool { return a.key <= b.key },
		"a ring":  func(a, b row) bool { return (a.key+1)%3 == b.key%3 },
	} {
		ls := marked([]int{0, 1, 2}, []int{2, 1, 0}, []int{1, 1}, nil)
		parted := make([][]row, len(ls))
		for x := range seq.Merge(less, ls...) {
			parted[x.list] = append(parted[x.list], x)
		}
		for k := range ls {
			if !slices.Equal(parted[k], ls[k]) {
				t.Errorf("P0.1: Merge where less says %s: list %d is %v, not %v", name, k, parted[k], ls[k])
			}
		}
	}
}

// A list that is not in order is gone through from its first one on.
func TestMergeOutOfOrder(t *testing.T) {
	ls := marked([]int{5, 1}, []int{3, 4, 2})
	if got, want := seq.List(seq.Merge(byKey, ls...)), merged(byKey, ls); !slices.Equal(got, want) {
		t.Errorf("P3.1: Merge: %v, not %v", got, want)
	}
}

func TestMergeOfManyLists(t *testing.T) {
	const n = 2000
	ls := make([][]int, n)
	for k := range ls {
		ls[k] = []int{n - k, n + k}
	}
	want := 1
	for x := range seq.Merge(func(a, b int) bool { return a < b }, ls...) {
		if x < want {
			t.Fatalf("P3.1: Merge of many: %d behind %d", x, want)
		}
		want = x
	}
	if want != 2*n-1 {
		t.Errorf("P3.1: Merge of many ends with %d", want)
	}
}
