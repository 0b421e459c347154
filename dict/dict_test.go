package dict_test

import (
	"math"
	"slices"
	"strconv"
	"strings"
	"testing"

	"asterism/api"
	"asterism/dict"
)

// plain is what a Dict is to be: a list of all words, each so many times as it
// is there, in order.
type plain []string

func (p *plain) add(s string) bool {
	was := slices.Contains(*p, s)
	*p = append(*p, s)
	slices.Sort(*p)
	return !was
}

func (p *plain) take(s string) bool {
	at := slices.Index(*p, s)
	if at >= 0 {
		*p = slices.Delete(*p, at, at+1)
	}
	return at >= 0
}

// unlike is each word once.
func (p plain) unlike() []string { return slices.Compact(slices.Clone(p)) }

// yes says what the test op of a against b says; false: it is none of Span's.
func yes(op int, a, b string) (bool, bool) {
	switch op {
	case api.OpEq:
		return a == b, true
	case api.OpLt:
		return a < b, true
	case api.OpLe:
		return a <= b, true
	case api.OpGt:
		return a > b, true
	case api.OpGe:
		return a >= b, true
	}
	return false, false
}

// span goes through all words, one by one.
func span(words []string, op int, s string) (from, to int, ok bool) {
	_, ok = yes(op, "", "")
	for i, w := range words {
		if in, _ := yes(op, w, s); in {
			if to == 0 {
				from = i
			}
			to = i + 1
		}
	}
	return from, to, ok
}

// same holds all that d tells of the words in ask against p.
func same(t *testing.T, d *dict.Dict, p plain, ask []string) {
	t.Helper()
	words := p.unlike()
	if d.Len() != len(words) {
		t.Fatalf("P5.1: Len: %d, not %d", d.Len(), len(words))
	}
	for i := -1; i <= len(words); i++ {
		want, in := "", i >= 0 && i < len(words)
		if in {
			want = words[i]
		}
		if s, ok := d.At(i); s != want || ok != in {
			t.Fatalf("P5.1: At(%d): %q, %v, not %q, %v", i, s, ok, want, in)
		}
	}
	for _, s := range ask {
		want, in := slices.BinarySearch(words, s)
		if !in {
			want = 0
		}
		if i, ok := d.Rank(s); i != want || ok != in {
			t.Fatalf("P5.1: Rank(%q): %d, %v, not %d, %v", s, i, ok, want, in)
		}
		for op := -1; op <= 9; op++ {
			from, to, is := span(words, op, s)
			if a, b, ok := d.Span(op, s); a != from || b != to || ok != is {
				t.Fatalf("P5.1: Span(%d, %q) of %q: %d, %d, %v, not %d, %d, %v", op, s, words, a, b, ok, from, to, is)
			}
		}
	}
}

// tell adds or takes a word in both, and holds the answers against each other.
func tell(t *testing.T, d *dict.Dict, p *plain, add bool, s string) {
	t.Helper()
	if add {
		if got, want := d.Add(s), p.add(s); got != want {
			t.Fatalf("P5.1: Add(%q): %v, not %v", s, got, want)
		}
		return
	}
	if got, want := d.Take(s), p.take(s); got != want {
		t.Fatalf("P5.1: Take(%q): %v, not %v", s, got, want)
	}
}

func TestZero(t *testing.T) {
	ask := []string{"", "a", "\xff"}
	var d dict.Dict
	same(t, &d, nil, ask)
	for range 2 {
		if d.Take("") || d.Take("a") {
			t.Error("P5.1: Take of an empty Dict")
		}
		same(t, &d, nil, ask)
	}
	if !d.Add("") {
		t.Error("P5.1: the first word is not new")
	}
	same(t, &d, plain{""}, ask)
	same(t, new(dict.Dict), nil, ask)
}

func TestSoManyTimes(t *testing.T) {
	const times = 5
	var d dict.Dict
	ask := []string{"a", "b", "c"}
	d.Add("a")
	d.Add("c")
	for i := range times {
		if d.Add("b") != (i == 0) {
			t.Errorf("P5.1: Add, the time %d", i)
		}
		same(t, &d, plain{"a", "b", "c"}, ask)
	}
	for i := range times {
		same(t, &d, plain{"a", "b", "c"}, ask)
		if !d.Take("b") {
			t.Errorf("P5.1: Take, the time %d", i)
		}
	}
	same(t, &d, plain{"a", "c"}, ask)
	if d.Take("b") {
		t.Error("P5.1: Take of a word that is all taken")
	}
	same(t, &d, plain{"a", "c"}, ask)
	if !d.Add("b") || !d.Take("b") || d.Take("b") {
		t.Error("P5.1: a word that was all taken is not as one that never was there")
	}
}

// A Dict of which all is taken is as a zero one.
func TestEmptiedAndFilledAgain(t *testing.T) {
	var d dict.Dict
	var p plain
	ask := []string{"", "a", "b", "c"}
	for range 3 {
		for _, s := range []string{"b", "a", "b", "c"} {
			tell(t, &d, &p, true, s)
		}
		for _, s := range []string{"b", "c", "b", "b", "a", "a"} {
			tell(t, &d, &p, false, s)
			same(t, &d, p, ask)
		}
		if d.Len() != 0 {
			t.Fatalf("P5.1: Len of what is emptied: %d", d.Len())
		}
	}
}

// All ways to add and to take three words, up to six times one behind the other.
func TestAllSmallDicts(t *testing.T) {
	const steps = 6
	words := []string{"b", "", "ba"}
	ask := []string{"", "a", "b", "b\x00", "ba", "bb"}
	var on func(d dict.Dict, p plain, left int)
	on = func(d dict.Dict, p plain, left int) {
		same(t, &d, p, ask)
		if left == 0 {
			return
		}
		for i := range 2 * len(words) {
			// A copy, so that each way goes on from here.
			next, list := d, slices.Clone(p)
			tell(t, &next, &list, i%2 == 0, words[i/2])
			on(next, list, left-1)
		}
	}
	on(dict.Dict{}, nil, steps)
}

// next goes through numbers that look mixed.
func next(x *uint64, below int) int {
	*x = *x*6364136223846793005 + 1442695040888963407
	return int(*x>>33) % below
}

func TestManyChanges(t *testing.T) {
	var ask []string
	for i := range 60 {
		ask = append(ask, strconv.Itoa(i))
	}
	for seed := range uint64(6) {
		var d dict.Dict
		var p plain
		x := seed
		for i := range 600 {
			// At first more is added than taken, then it is the other way.
			tell(t, &d, &p, next(&x, 10) < 8-i/100, ask[next(&x, 50)])
			if i%10 == 0 {
				same(t, &d, p, ask)
			}
		}
	}
}

// The order is that of the bytes, whatever they stand for.
func TestByteByByte(t *testing.T) {
	ordered := []string{
		"", "\x00", "\x00\x00", "\x00\xff", " ", "'", "0", "10", "9", "A", "Z", "Zz", "_", "a", "a\x00", "aa", "b",
		"z", "zz", "~", "\x7f", "\x80", "\xc3", "é", "€", "\xef\xbf\xbd", "\U0001F600", "\xff", "\xff\x00", "\xff\xff",
		"\xff\xff" + strings.Repeat("\xff", 100000),
	}
	for _, step := range []int{1, 7, 11, 13} {
		var d dict.Dict
		for i := range ordered {
			if s := ordered[i*step%len(ordered)]; !d.Add(s) {
				t.Errorf("P5.1: Add(%.20q) behind words unlike it", s)
			}
		}
		for i, s := range ordered {
			if at, ok := d.Rank(s); at != i || !ok {
				t.Errorf("P5.1: Rank(%.20q): %d, %v, not %d", s, at, ok, i)
			}
			if w, ok := d.At(i); w != s || !ok {
				t.Errorf("P5.1: At(%d): %.20q, %v, not %.20q", i, w, ok, s)
			}
		}
		same(t, &d, ordered, append([]string{"\x01", "AA", "a\x00\x00", "\xc3\xaa", "\xfe", "\xff\xff\xff"}, ordered...))
	}
}

func TestSpan(t *testing.T) {
	var d dict.Dict
	for _, s := range []string{"d", "b", "f", "d", "f", "f"} {
		d.Add(s)
	}
	for _, x := range []struct {
		op       int
		s        string
		from, to int
	}{
		{api.OpEq, "b", 0, 1}, {api.OpEq, "d", 1, 2}, {api.OpEq, "f", 2, 3}, {api.OpEq, "c", 0, 0}, {api.OpEq, "g", 0, 0},
		{api.OpLt, "b", 0, 0}, {api.OpLt, "a", 0, 0}, {api.OpLt, "c", 0, 1}, {api.OpLt, "f", 0, 2}, {api.OpLt, "g", 0, 3},
		{api.OpLe, "a", 0, 0}, {api.OpLe, "b", 0, 1}, {api.OpLe, "c", 0, 1}, {api.OpLe, "f", 0, 3}, {api.OpLe, "g", 0, 3},
		{api.OpGt, "a", 0, 3}, {api.OpGt, "b", 1, 3}, {api.OpGt, "c", 1, 3}, {api.OpGt, "f", 0, 0}, {api.OpGt, "g", 0, 0},
		{api.OpGe, "a", 0, 3}, {api.OpGe, "b", 0, 3}, {api.OpGe, "e", 2, 3}, {api.OpGe, "f", 2, 3}, {api.OpGe, "g", 0, 0},
	} {
		if from, to, ok := d.Span(x.op, x.s); from != x.from || to != x.to || !ok {
			t.Errorf("P5.1: Span(%d, %q): %d, %d, %v, not %d, %d", x.op, x.s, from, to, ok, x.from, x.to)
		}
	}
}

func TestSpanOfAnotherOp(t *testing.T) {
	var empty, d dict.Dict
	d.Add("a")
	d.Add("b")
	for _, op := range []int{0, -1, api.OpNe, api.OpNull, api.OpNotNull, 9, math.MinInt, math.MaxInt, -api.OpEq, api.OpEq + 1<<32} {
		for _, s := range []string{"", "a", "b", "c"} {
			for _, d := range []*dict.Dict{&d, &empty} {
				if from, to, ok := d.Span(op, s); from != 0 || to != 0 || ok {
					t.Errorf("P5.1: Span(%d, %q): %d, %d, %v", op, s, from, to, ok)
				}
			}
		}
	}
}

func TestAtOfNoPlace(t *testing.T) {
	var d dict.Dict
	d.Add("a")
	d.Add("a")
	d.Add("b")
	for _, i := range []int{-1, 2, 3, math.MinInt, math.MaxInt} {
		if s, ok := d.At(i); s != "" || ok {
			t.Errorf("P0.2: At(%d): %q, %v", i, s, ok)
		}
	}
}

func TestNoDict(t *testing.T) {
	var d *dict.Dict
	for range 2 {
		if d.Add("a") || d.Add("") || d.Take("a") || d.Len() != 0 {
			t.Error("P5.1: a nil Dict has a word")
		}
		if i, ok := d.Rank("a"); i != 0 || ok {
			t.Errorf("P5.1: Rank of a nil Dict: %d, %v", i, ok)
		}
		if s, ok := d.At(0); s != "" || ok {
			t.Errorf("P5.1: At of a nil Dict: %q, %v", s, ok)
		}
		for op := -1; op <= 9; op++ {
			if from, to, ok := d.Span(op, "a"); from != 0 || to != 0 || ok {
				t.Errorf("P5.1: Span(%d) of a nil Dict: %d, %d, %v", op, from, to, ok)
			}
		}
	}
}

// P0.5: what is told to one Dict is not told to another, its copy neither.
func TestDictsAreApart(t *testing.T) {
	var a, b dict.Dict
	a.Add("x")
	a.Add("y")
	b.Add("y")
	c := a
	a.Take("x")
	b.Add("z")
	c.Add("w")
	ask := []string{"w", "x", "y", "z"}
	same(t, &a, plain{"y"}, ask)
	same(t, &b, plain{"y", "z"}, ask)
	same(t, &c, plain{"w", "x", "y"}, ask)
}

// In whatever order 2^15 words come and go, all numbers are right.
func TestMany(t *testing.T) {
	const n = 1 << 15
	word := func(i int) string { return strconv.Itoa(n + i) }
	for name, key := range map[string]func(i int) int{
		"rising":  func(i int) int { return i },
		"falling": func(i int) int { return n - 1 - i },
		"mixed":   func(i int) int { return i * 40503 % n },
	} {
		var d dict.Dict
		for i := range 2 * n {
			if d.Add(word(key(i%n))) != (i < n) {
				t.Fatalf("P5.1, %s: Add", name)
			}
		}
		for i := range n {
			k := key(i)
			from, to, ok := d.Span(api.OpGt, word(k))
			if want := (k + 1) % n; from != want || to != n && want != 0 || !ok {
				t.Fatalf("P5.1, %s: Span of those above the word %d: %d, %d", name, k, from, to)
			}
			if at, ok := d.Rank(word(k)); at != k || !ok {
				t.Fatalf("P5.1, %s: Rank: %d, not %d", name, at, k)
			}
		}
		for i := range 2 * n {
			if want := min(n, 2*n-1-i); !d.Take(word(key(i%n))) || d.Len() != want {
				t.Fatalf("P5.1, %s: Take, behind which there are %d", name, d.Len())
			}
		}
		if d.Len() != 0 {
			t.Errorf("P5.1, %s: %d are left", name, d.Len())
		}
	}
}
