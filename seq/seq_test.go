package seq_test

import (
	"fmt"
	"iter"
	"math"
	"slices"
	"strconv"
	"testing"

	"asterism/seq"
)

func odd(x int) bool      { return x%2 == 1 }
func square(x int) int    { return x * x }
func join(u, x int) int   { return u*10 + x }
func spell(x int) string  { return "n" + strconv.Itoa(x) }
func none() iter.Seq[int] { return seq.Of[int]() }

// to has 1, 2, ... n.
func to(n int) iter.Seq[int] {
	return func(yield func(int) bool) {
		for i := range n {
			if !yield(i + 1) {
				return
			}
		}
	}
}

// counted has what to(n) has, and counts those that are asked of it.
func counted(asked *int, n int) iter.Seq[int] {
	return func(yield func(int) bool) {
		for x := range to(n) {
			*asked++
			if !yield(x) {
				return
			}
		}
	}
}

// deaf has 1, 2, ... n, and goes on when it has been left.
func deaf(n int) iter.Seq[int] {
	return func(yield func(int) bool) {
		for x := range to(n) {
			yield(x)
		}
	}
}

// first has the first stop of s, taken by leaving a loop.
func first(s iter.Seq[int], stop int) []int {
	l := []int{}
	for x := range s {
		if l = append(l, x); len(l) == stop {
			break
		}
	}
	return l
}

// cases has what each function makes of one thing and another.
func cases() []struct {
	name string
	s    iter.Seq[int]
	want []int
} {
	return []struct {
		name string
		s    iter.Seq[int]
		want []int
	}{
		{"Of", seq.Of(3, 1, 2), []int{3, 1, 2}},
		{"Of one", seq.Of(7), []int{7}},
		{"Of like ones", seq.Of(1, 1, 2, 1), []int{1, 1, 2, 1}},
		{"Of none", seq.Of[int](), nil},
		{"Of an empty list", seq.Of([]int{}...), nil},
		{"Map", seq.Map(to(4), square), []int{1, 4, 9, 16}},
		{"Map of none", seq.Map(none(), square), nil},
		{"Map of nil", seq.Map(nil, square), nil},
		{"Keep", seq.Keep(to(5), odd), []int{1, 3, 5}},
		{"Keep all", seq.Keep(seq.Of(5, 3), odd), []int{5, 3}},
		{"Keep no one", seq.Keep(seq.Of(4, 2), odd), nil},
		{"Keep of none", seq.Keep(none(), odd), nil},
		{"Keep of nil", seq.Keep(nil, odd), nil},
		{"Take 1", seq.Take(to(3), 1), []int{1}},
		{"Take all but one", seq.Take(to(3), 2), []int{1, 2}},
		{"Take all", seq.Take(to(3), 3), []int{1, 2, 3}},
		{"Take one more", seq.Take(to(3), 4), []int{1, 2, 3}},
		{"Take very many", seq.Take(to(3), math.MaxInt), []int{1, 2, 3}},
		{"Take 0", seq.Take(to(3), 0), nil},
		{"Take -1", seq.Take(to(3), -1), nil},
		{"Take the least", seq.Take(to(3), math.MinInt), nil},
		{"Take of none", seq.Take(none(), 2), nil},
		{"Take of nil", seq.Take[int](nil, 2), nil},
		{"Skip 1", seq.Skip(to(3), 1), []int{2, 3}},
		{"Skip all but one", seq.Skip(to(3), 2), []int{3}},
		{"Skip all", seq.Skip(to(3), 3), nil},
		{"Skip one more", seq.Skip(to(3), 4), nil},
		{"Skip very many", seq.Skip(to(3), math.MaxInt), nil},
		{"Skip 0", seq.Skip(to(3), 0), []int{1, 2, 3}},
		{"Skip -1", seq.Skip(to(3), -1), []int{1, 2, 3}},
		{"Skip the least", seq.Skip(to(3), math.MinInt), []int{1, 2, 3}},
		{"Skip of none", seq.Skip(none(), 2), nil},
		{"Skip of nil", seq.Skip[int](nil, 2), nil},
		{"Chain", seq.Chain(seq.Of(9, 8), to(2), seq.Of(7)), []int{9, 8, 1, 2, 7}},
		{"Chain of one", seq.Chain(to(2)), []int{1, 2}},
		{"Chain of one twice", seq.Chain(seq.Of(4, 5), seq.Of(4, 5)), []int{4, 5, 4, 5}},
		{"Chain with none and nil", seq.Chain(none(), to(1), nil, none(), to(2), nil), []int{1, 1, 2}},
		{"Chain of nils", seq.Chain[int](nil, nil), nil},
		{"Chain of none", seq.Chain[int](), nil},
		{"one upon the other", seq.Skip(seq.Take(seq.Chain(to(3), seq.Map(seq.Keep(to(5), odd), square)), 5), 1), []int{2, 3, 1, 9}},
	}
}

func TestAllOfThem(t *testing.T) {
	for _, x := range cases() {
		for range 2 {
			if got := seq.List(x.s); !slices.Equal(got, x.want) {
				t.Errorf("P3.1: %s: %v, not %v", x.name, got, x.want)
			}
		}
	}
}

func TestLeftAnywhereAndBegunAgain(t *testing.T) {
	for _, x := range cases() {
		for stop := 1; stop <= len(x.want); stop++ {
			if got := first(x.s, stop); !slices.Equal(got, x.want[:stop]) {
				t.Errorf("P3.1: %s, left at %d: %v, not %v", x.name, stop, got, x.want[:stop])
			}
		}
		if got := seq.List(x.s); !slices.Equal(got, x.want) {
			t.Errorf("P3.1: %s, after it was left: %v, not %v", x.name, got, x.want)
		}
	}
}

func TestOneWithinTheOther(t *testing.T) {
	for _, x := range cases() {
		n := 0
		for range x.s {
			n++
			if got := seq.List(x.s); !slices.Equal(got, x.want) {
				t.Errorf("P3.1: %s, within itself: %v, not %v", x.name, got, x.want)
			}
		}
		if n != len(x.want) {
			t.Errorf("P3.1: %s, around itself: %d, not %d", x.name, n, len(x.want))
		}
	}
}

func TestOfOtherTypes(t *testing.T) {
	s := seq.Map(seq.Keep(to(5), odd), spell)
	if got := fmt.Sprint(seq.List(seq.Chain(s, seq.Of("end")))); got != "[n1 n3 n5 end]" {
		t.Errorf("P3.1: Map to texts: %s", got)
	}
}

func TestList(t *testing.T) {
	for n := range 70 {
		l := seq.List(to(n))
		if len(l) != n {
			t.Errorf("P3.1: List of %d has %d", n, len(l))
		}
		for i, x := range l {
			if x != i+1 {
				t.Errorf("P3.1: List of %d has %d at %d", n, x, i)
			}
		}
	}
	if l := seq.List[int](nil); len(l) != 0 {
		t.Errorf("P3.1: List of nil: %v", l)
	}
}

func TestFold(t *testing.T) {
	for _, x := range []struct {
		name string
		s    iter.Seq[int]
		u    int
		want int
	}{
		{"three", seq.Of(4, 5, 6), 0, 456}, {"from 9", seq.Of(4, 5, 6), 9, 9456}, {"one", seq.Of(3), 2, 23},
		{"none", none(), 8, 8}, {"nil", nil, 7, 7},
	} {
		for range 2 {
			if got := seq.Fold(x.s, x.u, join); got != x.want {
				t.Errorf("P3.1: Fold of %s: %d, not %d", x.name, got, x.want)
			}
		}
	}
	if got := seq.Fold(to(3), "", func(u string, x int) string { return u + spell(x) }); got != "n1n2n3" {
		t.Errorf("P3.1: Fold to a text: %s", got)
	}
}

// A whole that is left at stop (0: at no time) has asked want of the 10 that
// it stands on.
func TestNoMoreIsAsked(t *testing.T) {
	same := func(x int) int { return x }
	third := func(x int) bool { return x%3 == 0 }
	for _, x := range []struct {
		name string
		make func(s iter.Seq[int]) iter.Seq[int]
		stop int
		want int
	}{
		{"Map", func(s iter.Seq[int]) iter.Seq[int] { return seq.Map(s, same) }, 1, 1},
		{"Map", func(s iter.Seq[int]) iter.Seq[int] { return seq.Map(s, same) }, 4, 4},
		{"Map to the end", func(s iter.Seq[int]) iter.Seq[int] { return seq.Map(s, same) }, 0, 10},
		{"Keep", func(s iter.Seq[int]) iter.Seq[int] { return seq.Keep(s, third) }, 1, 3},
		{"Keep", func(s iter.Seq[int]) iter.Seq[int] { return seq.Keep(s, third) }, 3, 9},
		{"Keep to the end", func(s iter.Seq[int]) iter.Seq[int] { return seq.Keep(s, third) }, 0, 10},
		{"Take 4", func(s iter.Seq[int]) iter.Seq[int] { return seq.Take(s, 4) }, 0, 4},
		{"Take 1", func(s iter.Seq[int]) iter.Seq[int] { return seq.Take(s, 1) }, 0, 1},
		{"Take 0", func(s iter.Seq[int]) iter.Seq[int] { return seq.Take(s, 0) }, 0, 0},
		{"Take -3", func(s iter.Seq[int]) iter.Seq[int] { return seq.Take(s, -3) }, 0, 0},
		{"Take 10", func(s iter.Seq[int]) iter.Seq[int] { return seq.Take(s, 10) }, 0, 10},
		{"Take 11", func(s iter.Seq[int]) iter.Seq[int] { return seq.Take(s, 11) }, 0, 10},
		{"Take 4, left", func(s iter.Seq[int]) iter.Seq[int] { return seq.Take(s, 4) }, 2, 2},
		{"Skip 4, left", func(s iter.Seq[int]) iter.Seq[int] { return seq.Skip(s, 4) }, 1, 5},
		{"Skip 4, left", func(s iter.Seq[int]) iter.Seq[int] { return seq.Skip(s, 4) }, 3, 7},
		{"Skip 0, left", func(s iter.Seq[int]) iter.Seq[int] { return seq.Skip(s, 0) }, 2, 2},
		{"Skip to the end", func(s iter.Seq[int]) iter.Seq[int] { return seq.Skip(s, 4) }, 0, 10},
		{"Chain, left in the first", func(s iter.Seq[int]) iter.Seq[int] { return seq.Chain(s, s) }, 3, 3},
		{"Chain, left at the first's last", func(s iter.Seq[int]) iter.Seq[int] { return seq.Chain(s, s) }, 10, 10},
		{"Chain, left in the second", func(s iter.Seq[int]) iter.Seq[int] { return seq.Chain(s, s) }, 12, 12},
		{"Take 2 of Keep", func(s iter.Seq[int]) iter.Seq[int] { return seq.Take(seq.Keep(s, third), 2) }, 0, 6},
		{"Chain of Take 2 and Skip 1, left", func(s iter.Seq[int]) iter.Seq[int] { return seq.Chain(seq.Take(s, 2), seq.Skip(s, 1)) }, 3, 4},
	} {
		asked := 0
		s := x.make(counted(&asked, 10))
		if asked != 0 {
			t.Errorf("P3.1: %s: %d are asked before it is ranged over", x.name, asked)
		}
		for again := 1; again <= 2; again++ {
			first(s, x.stop)
			if asked != again*x.want {
				t.Errorf("P3.1: %s, time %d: %d are asked, not %d", x.name, again, asked, again*x.want)
			}
		}
	}
}

func TestFunctionsAreAskedOnceEach(t *testing.T) {
	asked := []int{}
	note := func(x int) bool {
		asked = append(asked, x)
		return true
	}
	seq.List(seq.Map(to(3), note))
	seq.List(seq.Keep(to(3), note))
	seq.Fold(to(3), false, func(u bool, x int) bool { return note(x) })
	first(seq.Keep(to(3), note), 2)
	if want := []int{1, 2, 3, 1, 2, 3, 1, 2, 3, 1, 2}; !slices.Equal(asked, want) {
		t.Errorf("P3.1: f is asked for %v, not %v", asked, want)
	}
}

func TestListsAreNotKept(t *testing.T) {
	room := []int{1, 2, 3, 40, 50}
	l := room[:3]
	s := seq.Of(l...)
	ss := []iter.Seq[int]{to(1), to(2)}
	c := seq.Chain(ss...)
	l[0], room[3], ss[1] = 9, 41, nil
	if got := seq.List(s); !slices.Equal(got, []int{1, 2, 3}) {
		t.Errorf("P0.3: Of keeps its list: %v", got)
	}
	if got := seq.List(c); !slices.Equal(got, []int{1, 1, 2}) {
		t.Errorf("P0.3: Chain keeps its list: %v", got)
	}
	if want := []int{9, 2, 3, 41, 50}; !slices.Equal(room, want) {
		t.Errorf("P0.3: a list that was handed in is %v, not %v", room, want)
	}
}

func TestListsAreNew(t *testing.T) {
	s := seq.Of(1, 2, 3)
	l, m := seq.List(s), seq.List(s)
	l[0] = 9
	_ = append(l, 8)
	if !slices.Equal(m, []int{1, 2, 3}) || !slices.Equal(seq.List(s), m) {
		t.Errorf("P0.3: lists share memory: %v, %v", m, seq.List(s))
	}
}

// What goes on when it has been left is told no, and does no harm.
func TestDeafOnes(t *testing.T) {
	for _, x := range []struct {
		name string
		s    iter.Seq[int]
		want []int
	}{
		{"Map", seq.Map(deaf(5), square), []int{1, 4}},
		{"Keep", seq.Keep(deaf(5), odd), []int{1, 3}},
		{"Take", seq.Take(deaf(5), 2), []int{1, 2}},
		{"Take, left", seq.Take(deaf(5), 4), []int{1, 2}},
		{"Skip", seq.Skip(deaf(5), 2), []int{3, 4}},
		{"Chain", seq.Chain(deaf(1), deaf(5), deaf(5)), []int{1, 1}},
	} {
		if got := first(x.s, 2); !slices.Equal(got, x.want) {
			t.Errorf("P0.1: %s: %v, not %v", x.name, got, x.want)
		}
	}
	if got := seq.List(seq.Take(deaf(5), 3)); !slices.Equal(got, []int{1, 2, 3}) {
		t.Errorf("P0.1: List of Take: %v", got)
	}
}

func TestNilFunctions(t *testing.T) {
	if l := seq.List(seq.Map[int, int](to(3), nil)); len(l) != 0 {
		t.Errorf("P0.1: Map with a nil f: %v", l)
	}
	if l := seq.List(seq.Keep(to(3), nil)); len(l) != 0 {
		t.Errorf("P0.1: Keep with a nil f: %v", l)
	}
	if u := seq.Fold(to(3), 7, nil); u != 7 {
		t.Errorf("P0.1: Fold with a nil f: %d", u)
	}
	if l := seq.List(seq.Merge(nil, []int{3}, []int{2, 1})); !slices.Equal(l, []int{3, 2, 1}) {
		t.Errorf("P0.1: Merge with a nil less: %v", l)
	}
}

func TestNoneIsNil(t *testing.T) {
	for name, s := range map[string]iter.Seq[int]{
		"Of": seq.Of[int](), "Map": seq.Map[int, int](nil, nil), "Keep": seq.Keep[int](nil, nil),
		"Take": seq.Take[int](nil, 0), "Skip": seq.Skip[int](nil, 0), "Chain": seq.Chain[int](), "Merge": seq.Merge[int](nil),
	} {
		if s == nil {
			t.Errorf("P0.4: %s answers nil", name)
		}
	}
}

func TestLongOnes(t *testing.T) {
	const n = 200000
	s := seq.Keep(seq.Skip(seq.Take(seq.Chain(to(n), to(n)), n+10), 5), odd)
	if got := seq.Fold(s, 0, func(u, x int) int { return u + 1 }); got != n/2-3+5 {
		t.Errorf("P0.1: %d of many", got)
	}
}
