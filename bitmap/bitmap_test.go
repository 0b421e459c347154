package bitmap_test

import (
	"math"
	"slices"
	"testing"

	"asterism/bitmap"
)

const end = 65536

// outside are numbers that are in no set.
func outside() []int {
	return []int{-1, -2, end, end + 1, 1 << 32, -1 << 32, 1<<32 + 3, math.MaxInt, math.MinInt, math.MinInt + 1}
}

// picked are the numbers of the first ones whose bit is set in bits.
func picked(bits int, of []int) []int {
	var l []int
	for k, i := range of {
		if bits>>k&1 == 1 {
			l = append(l, i)
		}
	}
	return l
}

// spans has the fewest spans that are the rising numbers l.
func spans(l []int) [][2]int {
	var s [][2]int
	for k, i := range l {
		if k > 0 && l[k-1] == i-1 {
			s[len(s)-1][1]++
		} else {
			s = append(s, [2]int{i, i + 1})
		}
	}
	return s
}

// kept has those of the rising numbers l that hold answers yes of.
func kept(l []int, hold func(i int) bool) []int {
	var to []int
	for _, i := range l {
		if hold(i) {
			to = append(to, i)
		}
	}
	return to
}

// within answers whether i is in the rising numbers l.
func within(l []int, i int) bool {
	_, ok := slices.BinarySearch(l, i)
	return ok
}

// below has how many of the rising numbers l are below i.
func below(l []int, i int) int {
	n, _ := slices.BinarySearch(l, i)
	return n
}

// same holds all that m tells against want, the rising numbers that it should
// have; asked is which numbers Has and Rank are asked of beside them.
func same(t *testing.T, m bitmap.Map, want []int, asked ...int) {
	t.Helper()
	if got := slices.Collect(m.All()); !slices.Equal(got, want) {
		t.Fatalf("P7.1: All: %v, not %v", got, want)
	}
	if m.Count() != len(want) {
		t.Fatalf("P7.1: Count: %d of %v", m.Count(), want)
	}
	if got := m.Runs(); !slices.Equal(got, spans(want)) {
		t.Fatalf("P7.1: Runs: %v of %v", got, want)
	}
	for k, i := range want {
		if !m.Has(i) || m.Rank(i) != k || m.Rank(i+1) != k+1 || m.Select(k) != i {
			t.Fatalf("P7.1: Has, Rank or Select: %d, number %d of %v", i, k, want)
		}
	}
	for _, i := range append(outside(), asked...) {
		if m.Has(i) != within(want, i) || m.Rank(i) != below(want, i) {
			t.Fatalf("P7.1: Has %v or Rank %d: %d of %v", m.Has(i), m.Rank(i), i, want)
		}
	}
	for _, k := range []int{-1, math.MinInt, len(want), len(want) + 1, len(want) + 1<<32, math.MaxInt} {
		if got := m.Select(k); got != -1 {
			t.Fatalf("P7.1: Select(%d) of %v: %d", k, want, got)
		}
	}
	if !bitmap.Eq(m, bitmap.Of(want...)) || !bitmap.Eq(bitmap.Of(want...), m) {
		t.Fatalf("P7.1: Eq: not the same as Of of %v", want)
	}
}

// two holds all that is made of two sets against what it should have.
func two(t *testing.T, a, b bitmap.Map, l, m []int) {
	t.Helper()
	all := slices.Compact(slices.Sorted(slices.Values(slices.Concat(l, m))))
	same(t, bitmap.And(a, b), kept(all, func(i int) bool { return within(l, i) && within(m, i) }), all...)
	same(t, bitmap.Or(a, b), all, all...)
	same(t, bitmap.Without(a, b), kept(all, func(i int) bool { return within(l, i) && !within(m, i) }), all...)
	if bitmap.Eq(a, b) != slices.Equal(l, m) {
		t.Fatalf("P7.1: Eq of %v, %v", l, m)
	}
	same(t, a, l)
	same(t, b, m)
}

// upTo has the numbers from from to ahead of to.
func upTo(from, to int) []int {
	var l []int
	for i := from; i < to; i++ {
		l = append(l, i)
	}
	return l
}

func TestAllSmallSets(t *testing.T) {
	for _, first := range []int{0, 1, 40000, end - 6} {
		of := upTo(first, first+6)
		for x := range 64 {
			l := picked(x, of)
			a := bitmap.Of(l...)
			same(t, a, l, of...)
			for y := range 64 {
				m := picked(y, of)
				two(t, a, bitmap.Of(m...), l, m)
			}
		}
	}
}

func TestNot(t *testing.T) {
	of := upTo(0, 7)
	for x := range 128 {
		l := picked(x, of)
		a := bitmap.Of(l...)
		for n := range 10 {
			same(t, bitmap.Not(a, n), kept(upTo(0, n), func(i int) bool { return !within(l, i) }), of...)
		}
		for _, n := range []int{-1, -5, math.MinInt} {
			same(t, bitmap.Not(a, n), nil, of...)
		}
		rest := bitmap.Or(bitmap.Not(a, 7), bitmap.Span(7, end))
		for _, n := range []int{end, end + 1, 1 << 40, math.MaxInt} {
			if not := bitmap.Not(a, n); !bitmap.Eq(not, rest) || not.Count() != end-len(l) {
				t.Fatalf("P7.1: Not(%v, %d): %v", l, n, not.Runs())
			}
		}
		same(t, a, l, of...)
	}
	top := bitmap.Of(0, end-1)
	for n, want := range map[int][][2]int{end - 2: {{1, end - 2}}, end - 1: {{1, end - 1}}, end: {{1, end - 1}}, end + 1: {{1, end - 1}}} {
		if got := bitmap.Not(top, n).Runs(); !slices.Equal(got, want) {
			t.Errorf("P7.1: Not(0 and 65,535, %d): %v", n, got)
		}
	}
}

func TestOf(t *testing.T) {
	for _, c := range []struct{ l, want []int }{
		{nil, nil},
		{[]int{}, nil},
		{outside(), nil},
		{[]int{3}, []int{3}},
		{[]int{3, 3, 3}, []int{3}},
		{[]int{5, 3, 4, 3, 5}, []int{3, 4, 5}},
		{[]int{end - 1, 0}, []int{0, end - 1}},
		{append(outside(), 9, 2, 9, 7), []int{2, 7, 9}},
		{append([]int{8, 1}, outside()...), []int{1, 8}},
	} {
		was := slices.Clone(c.l)
		same(t, bitmap.Of(c.l...), c.want, 0, 1, 2, 3, 4, 5, 6)
		if !slices.Equal(c.l, was) {
			t.Errorf("P0.3: Of changed %v to %v", was, c.l)
		}
	}
}

func TestSpan(t *testing.T) {
	edges := []int{math.MinInt, -1 << 32, -5, -1, 0, 1, 2, 3, 9, end - 3, end - 1, end, end + 1, 1 << 32, math.MaxInt}
	for _, from := range edges {
		for _, to := range edges {
			var want [][2]int
			if f, n := max(from, 0), min(to, end); f < n {
				want = [][2]int{{f, n}}
			}
			got := bitmap.Span(from, to)
			if !slices.Equal(got.Runs(), want) {
				t.Fatalf("P7.1: Span(%d, %d): %v", from, to, got.Runs())
			}
			for _, i := range edges {
				if got.Has(i) != (i >= from && i < to && i >= 0 && i < end) {
					t.Fatalf("P7.1: Span(%d, %d): Has(%d)", from, to, i)
				}
			}
		}
	}
	same(t, bitmap.Span(-2, 4), upTo(0, 4), upTo(0, 6)...)
	same(t, bitmap.Span(7, 12), upTo(7, 12), upTo(5, 15)...)
	same(t, bitmap.Span(end-4, end+9), upTo(end-4, end), upTo(end-9, end)...)
	whole := bitmap.Span(math.MinInt, math.MaxInt)
	same(t, whole, upTo(0, end))
	same(t, bitmap.Without(whole, bitmap.Of(0, end-1)), upTo(1, end-1), 0, end-1)
}

func TestZero(t *testing.T) {
	var zero bitmap.Map
	same(t, zero, nil, upTo(0, 5)...)
	same(t, bitmap.Not(zero, 3), upTo(0, 3), upTo(0, 5)...)
	l := []int{2, 3, 9}
	two(t, zero, bitmap.Of(l...), nil, l)
	two(t, bitmap.Of(l...), zero, l, nil)
	two(t, zero, zero, nil, nil)
	for _, empty := range []bitmap.Map{bitmap.Of(), bitmap.Of(-1, end), bitmap.Span(4, 4), bitmap.Span(5, 4), bitmap.Not(zero, 0), bitmap.Not(bitmap.Span(0, end), end), bitmap.And(bitmap.Of(1), bitmap.Of(2)), bitmap.Without(bitmap.Of(1), bitmap.Of(1))} {
		if !bitmap.Eq(zero, empty) || !bitmap.Eq(empty, zero) {
			t.Errorf("P7.1: an empty one is not the same as a zero one: %v", empty.Runs())
		}
	}
}

// next answers a number from 0 to ahead of below, as x goes on.
func next(x *uint64, below int) int {
	*x = *x*6364136223846793005 + 1442695040888963407
	return int(*x>>33) % below
}

// drawn has numbers in short and long runs, near and far apart.
func drawn(x *uint64) []int {
	var l []int
	for at := next(x, 3); len(l) < 60 && next(x, 12) > 0; at += 1 + next(x, 2)*next(x, 8000) {
		for range 1 + next(x, 2)*next(x, 9) {
			if at < end {
				l = append(l, at)
			}
			at++
		}
	}
	return l
}

func TestManySets(t *testing.T) {
	x := uint64(7)
	for range 3000 {
		l, m := drawn(&x), drawn(&x)
		mixed := slices.Clone(l)
		for range l {
			i, k := next(&x, len(l)), next(&x, len(l))
			mixed[i], mixed[k] = mixed[k], mixed[i]
			mixed = append(mixed, l[i])
		}
		a, b := bitmap.Of(mixed...), bitmap.Of(m...)
		two(t, a, b, l, m)
		two(t, a, bitmap.Not(b, 500), l, kept(upTo(0, 500), func(i int) bool { return !within(m, i) }))
		two(t, bitmap.Or(a, b), a, slices.Collect(bitmap.Or(a, b).All()), l)
		if not := bitmap.Not(bitmap.Not(a, end), end); !bitmap.Eq(not, a) {
			t.Fatalf("P7.1: Not of Not: %v of %v", not.Runs(), l)
		}
	}
}

func TestEqOfNear(t *testing.T) {
	a := bitmap.Of(3, 4, 9)
	for _, other := range [][]int{{3, 4}, {3, 4, 8}, {2, 3, 4, 9}, {3, 4, 9, 10}, {3, 9}, {4, 9}, {3, 5, 9}, {3, 4, 5, 9}} {
		if b := bitmap.Of(other...); bitmap.Eq(a, b) || bitmap.Eq(b, a) {
			t.Errorf("P7.1: Eq of 3 4 9 and %v", other)
		}
	}
}

func TestAllIsLeftAndGoneThroughAgain(t *testing.T) {
	all := bitmap.Of(2, 3, 7, 8, 9).All()
	for n := range 7 {
		var got []int
		for i := range all {
			if len(got) == n {
				break
			}
			got = append(got, i)
		}
		if want := []int{2, 3, 7, 8, 9}[:min(n, 5)]; !slices.Equal(got, want) {
			t.Errorf("P7.1: All, left behind %d: %v", n, got)
		}
	}
	var zero bitmap.Map
	if zero.All() == nil {
		t.Error("P0.4: All of a zero one is nil")
	}
}

// What is written into what went in or came out changes nothing, and what was
// made of a set is another one.
func TestApart(t *testing.T) {
	l := make([]int, 4, 20)
	copy(l, []int{9, 2, 3, 9})
	spare := l[:20]
	for i := range spare[4:] {
		spare[4+i] = 77
	}
	a := bitmap.Of(l...)
	if !slices.Equal(l, []int{9, 2, 3, 9}) || !slices.Equal(spare[4:], slices.Repeat([]int{77}, 16)) {
		t.Error("P0.3: Of changed its list or the spare room")
	}
	for i := range spare {
		spare[i] = 50
	}
	want := []int{2, 3, 9}
	same(t, a, want, 50, 77)
	runs := a.Runs()
	runs = runs[:cap(runs)]
	for i := range runs {
		runs[i] = [2]int{60, 90}
	}
	_ = append(a.Runs()[:0], [2]int{60, 90})
	same(t, a, want, 50, 60, 77)
	b, c, d := bitmap.Or(a, bitmap.Map{}), bitmap.And(a, a), bitmap.Without(a, bitmap.Map{})
	copied := a
	for _, m := range []bitmap.Map{a, b, c, d, copied} {
		bitmap.Or(m, bitmap.Of(4, 10, 11))
		bitmap.And(m, bitmap.Of(3))
		bitmap.Without(m, bitmap.Of(2, 9))
		bitmap.Not(m, 100)
		m.Runs()[0] = [2]int{0, 1}
	}
	for _, m := range []bitmap.Map{a, b, c, d, copied} {
		same(t, m, want, 4, 10, 11)
	}
}

func TestAsManyRunsAsMayBe(t *testing.T) {
	var even, odd []int
	for i := 0; i < end; i += 2 {
		even, odd = append(even, i), append(odd, i+1)
	}
	a, b := bitmap.Of(even...), bitmap.Of(odd...)
	same(t, a, even, odd...)
	same(t, bitmap.Not(a, end), odd, even...)
	same(t, bitmap.Not(b, end+1), even, odd...)
	same(t, bitmap.Or(a, b), upTo(0, end))
	same(t, bitmap.And(a, b), nil)
	same(t, bitmap.Without(a, b), even)
	same(t, bitmap.Without(bitmap.Span(0, end), a), odd)
}

func TestLongList(t *testing.T) {
	l := make([]int, 1<<20)
	x := uint64(3)
	for i := range l {
		l[i] = next(&x, 1<<20) - 1<<19
	}
	want := slices.Compact(slices.Sorted(slices.Values(kept(l, func(i int) bool { return i >= 0 && i < end }))))
	same(t, bitmap.Of(l...), want)
}
