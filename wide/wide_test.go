package wide_test

import (
	"math"
	"math/big"
	"testing"

	"asterism/wide"
)

const (
	least = math.MinInt64
	most  = math.MaxInt64
	full  = math.MaxUint64
	half  = 1 << 63 // a lo whose first bit alone is set
)

// parts is what Parts tells, side by side.
type parts struct {
	hi int64
	lo uint64
}

func told(w wide.Wide) parts {
	hi, lo := w.Parts()
	return parts{hi, lo}
}

// made makes the Wide of these parts out of int64s, as a caller must.
func made(p parts) wide.Wide {
	upper := wide.Of(p.hi).Times(1 << 32).Times(1 << 32)
	lower := wide.Of(int64(p.lo >> 1)).Times(2).Add(wide.Of(int64(p.lo & 1)))
	return upper.Add(lower)
}

// rising has the parts of numbers, each below the next: those at which
// something goes round, or is no int64 any more, and those beside them.
func rising() []parts {
	return []parts{
		{least, 0}, {least, 1}, {least, half}, {least, full}, {least + 1, 0},
		{-1 << 62, 0}, {-7, 5}, {-3, full}, {-2, 0}, {-2, half}, {-2, full},
		{-1, 0}, {-1, 1}, {-1, half - 1}, {-1, half}, {-1, half + 1},
		{-1, full - 6}, {-1, full - 1}, {-1, full},
		{0, 0},
		{0, 1}, {0, 2}, {0, 7}, {0, 1 << 32}, {0, half - 2}, {0, half - 1}, {0, half}, {0, half + 1},
		{0, full - 1}, {0, full}, {1, 0}, {1, 1}, {1, half}, {1, full}, {2, 0},
		{7, 5}, {1 << 62, 0}, {most - 1, full}, {most, 0}, {most, half}, {most, full - 1}, {most, full},
	}
}

func factors() []int64 {
	return []int64{
		0, 1, -1, 2, -2, 3, -3, 7, -7, 10, 1000003, -1000003, 1 << 32, -1 << 32, 1<<32 - 1,
		1 << 62, -1 << 62, most - 1, most, least + 1, least,
	}
}

func TestOfAndParts(t *testing.T) {
	for _, x := range []struct {
		n    int64
		want parts
	}{
		{0, parts{0, 0}}, {1, parts{0, 1}}, {-1, parts{-1, full}}, {7, parts{0, 7}}, {-7, parts{-1, full - 6}},
		{1 << 32, parts{0, 1 << 32}}, {-1 << 32, parts{-1, full - 1<<32 + 1}},
		{most, parts{0, half - 1}}, {most - 1, parts{0, half - 2}},
		{least, parts{-1, half}}, {least + 1, parts{-1, half + 1}},
	} {
		if got := told(wide.Of(x.n)); got != x.want {
			t.Errorf("P2.1: Of(%d) is %v, not %v", x.n, got, x.want)
		}
	}
}

func TestPartsOfAll(t *testing.T) {
	for _, p := range rising() {
		if got := told(made(p)); got != p {
			t.Errorf("P2.1: Parts of what is made as %v are %v", p, got)
		}
	}
}

// A zero Wide is 0 whatever it is asked.
func TestZero(t *testing.T) {
	var w wide.Wide
	if told(w) != (parts{}) || told(w.Neg()) != (parts{}) || told(w.Add(w)) != (parts{}) {
		t.Error("P2.1: Parts, Neg or Add of a zero Wide")
	}
	if n, ok := w.Num(); n != 0 || !ok {
		t.Errorf("P2.1: Num of a zero Wide: %d, %v", n, ok)
	}
	if w.Compare(wide.Of(0)) != 0 || wide.Of(0).Compare(w) != 0 {
		t.Error("P2.1: a zero Wide is not as Of(0)")
	}
	for _, n := range factors() {
		if told(w.Times(n)) != (parts{}) {
			t.Errorf("P2.1: a zero Wide times %d", n)
		}
		if q, ok := w.Quo(n); q != 0 || ok != (n >= 1) {
			t.Errorf("P2.1: a zero Wide by %d: %d, %v", n, q, ok)
		}
		if told(w.Add(wide.Of(n))) != told(wide.Of(n)) || told(wide.Of(n).Add(w)) != told(wide.Of(n)) {
			t.Errorf("P2.1: a zero Wide and %d", n)
		}
	}
}

func TestAdd(t *testing.T) {
	for _, x := range []struct{ a, b, want parts }{
		{parts{0, 2}, parts{0, 3}, parts{0, 5}},
		{parts{0, 2}, parts{-1, full - 2}, parts{-1, full}},
		{parts{0, 3}, parts{-1, full - 2}, parts{0, 0}},
		{parts{-1, full}, parts{-1, full}, parts{-1, full - 1}},
		// just below and just above the ends of an int64
		{parts{0, half - 2}, parts{0, 1}, parts{0, half - 1}},
		{parts{0, half - 1}, parts{0, 1}, parts{0, half}},
		{parts{0, half - 1}, parts{0, half - 1}, parts{0, full - 1}},
		{parts{-1, half + 1}, parts{-1, full}, parts{-1, half}},
		{parts{-1, half}, parts{-1, full}, parts{-1, half - 1}},
		{parts{-1, half}, parts{-1, half}, parts{-1, 0}},
		{parts{0, half - 1}, parts{-1, half}, parts{-1, full}},
		// just below and just above 2^64, and as far below 0
		{parts{0, full - 1}, parts{0, 1}, parts{0, full}},
		{parts{0, full}, parts{0, 1}, parts{1, 0}},
		{parts{1, 0}, parts{-1, full}, parts{0, full}},
		{parts{0, full}, parts{0, full}, parts{1, full - 1}},
		{parts{-1, 1}, parts{-1, full}, parts{-1, 0}},
		{parts{-1, 0}, parts{-1, full}, parts{-2, full}},
		{parts{-2, full}, parts{0, 1}, parts{-1, 0}},
		{parts{5, 6}, parts{-9, 7}, parts{-4, 13}},
		// near the ends of a Wide, and what goes round there
		{parts{most, full - 1}, parts{0, 1}, parts{most, full}},
		{parts{most, full}, parts{0, 1}, parts{least, 0}},
		{parts{most, full}, parts{most, full}, parts{-1, full - 1}},
		{parts{least, 1}, parts{-1, full}, parts{least, 0}},
		{parts{least, 0}, parts{-1, full}, parts{most, full}},
		{parts{least, 0}, parts{least, 0}, parts{0, 0}},
		{parts{most, full}, parts{least, 0}, parts{-1, full}},
	} {
		if got := told(made(x.a).Add(made(x.b))); got != x.want {
			t.Errorf("P2.1: %v and %v are %v, not %v", x.a, x.b, got, x.want)
		}
		if got := told(made(x.b).Add(made(x.a))); got != x.want {
			t.Errorf("P2.1: %v and %v are %v, not %v", x.b, x.a, got, x.want)
		}
	}
}

func TestNeg(t *testing.T) {
	for _, x := range []struct{ a, b parts }{
		{parts{0, 0}, parts{0, 0}},
		{parts{0, 1}, parts{-1, full}},
		{parts{0, 7}, parts{-1, full - 6}},
		{parts{0, half - 1}, parts{-1, half + 1}},
		{parts{0, half}, parts{-1, half}},
		{parts{0, half + 1}, parts{-1, half - 1}},
		{parts{0, full}, parts{-1, 1}},
		{parts{1, 0}, parts{-1, 0}},
		{parts{1, 1}, parts{-2, full}},
		{parts{7, 5}, parts{-8, full - 4}},
		{parts{most, 0}, parts{least + 1, 0}},
		{parts{most, full}, parts{least, 1}},
		{parts{least, 0}, parts{least, 0}}, // 2^127 goes round
	} {
		if got := told(made(x.a).Neg()); got != x.b {
			t.Errorf("P2.1: Neg of %v is %v, not %v", x.a, got, x.b)
		}
		if got := told(made(x.b).Neg()); got != x.a {
			t.Errorf("P2.1: Neg of %v is %v, not %v", x.b, got, x.a)
		}
	}
}

func TestTimes(t *testing.T) {
	for _, x := range []struct {
		a    parts
		n    int64
		want parts
	}{
		{parts{0, 6}, 7, parts{0, 42}},
		{parts{0, 6}, -7, parts{-1, full - 41}},
		{parts{-1, full - 5}, 7, parts{-1, full - 41}},
		{parts{-1, full - 5}, -7, parts{0, 42}},
		{parts{0, 1 << 32}, 1 << 32, parts{1, 0}},
		{parts{0, 1 << 32}, -1 << 32, parts{-1, 0}},
		{parts{0, half}, 2, parts{1, 0}},
		{parts{0, half - 1}, 2, parts{0, full - 1}},
		{parts{3, full}, 2, parts{7, full - 1}},
		{parts{-4, 0}, -3, parts{12, 0}},
		{parts{0, half - 1}, most, parts{1<<62 - 1, 1}},
		{parts{0, half - 1}, least, parts{-1 << 62, half}},
		// the least int64
		{parts{0, 1}, least, parts{-1, half}},
		{parts{-1, full}, least, parts{0, half}},
		{parts{-1, half}, least, parts{1 << 62, 0}},
		{parts{-1, half}, most, parts{-1 << 62, half}},
		{parts{-1, half}, -1, parts{0, half}},
		{parts{1, 0}, least, parts{least, 0}},
		{parts{-1, 0}, least, parts{least, 0}},
		{parts{1, 1}, least, parts{most, half}},
		{parts{2, 0}, least, parts{0, 0}},
		{parts{most, full}, least, parts{0, half}},
		{parts{least, 0}, least, parts{0, 0}},
		// what goes round at the ends of a Wide
		{parts{least, 0}, -1, parts{least, 0}},
		{parts{least, 0}, 2, parts{0, 0}},
		{parts{least, 1}, 3, parts{least, 3}},
		{parts{most, full}, -1, parts{least, 1}},
		{parts{most, full}, 2, parts{-1, full - 1}},
		{parts{1 << 62, 0}, 2, parts{least, 0}},
		{parts{-1 << 62, 0}, 2, parts{least, 0}},
		{parts{-1 << 62, 0}, -2, parts{least, 0}},
	} {
		if got := told(made(x.a).Times(x.n)); got != x.want {
			t.Errorf("P2.1: %v times %d is %v, not %v", x.a, x.n, got, x.want)
		}
	}
}

func TestTimesLittle(t *testing.T) {
	for _, p := range rising() {
		w := made(p)
		for n, want := range map[int64]wide.Wide{0: {}, 1: w, -1: w.Neg(), 2: w.Add(w), -2: w.Neg().Add(w.Neg())} {
			if got := told(w.Times(n)); got != told(want) {
				t.Errorf("P2.1: %v times %d is %v, not %v", p, n, got, told(want))
			}
		}
	}
}

func TestNum(t *testing.T) {
	for _, x := range []struct {
		p  parts
		n  int64
		ok bool
	}{
		{parts{0, 0}, 0, true}, {parts{0, 1}, 1, true}, {parts{-1, full}, -1, true}, {parts{-1, full - 6}, -7, true},
		{parts{0, half - 2}, most - 1, true}, {parts{0, half - 1}, most, true},
		{parts{0, half}, 0, false}, {parts{0, half + 1}, 0, false}, {parts{0, full}, 0, false},
		{parts{-1, half + 1}, least + 1, true}, {parts{-1, half}, least, true},
		{parts{-1, half - 1}, 0, false}, {parts{-1, 1}, 0, false}, {parts{-1, 0}, 0, false},
		{parts{1, 0}, 0, false}, {parts{1, 7}, 0, false}, {parts{1, full}, 0, false},
		{parts{-2, full}, 0, false}, {parts{-2, 7}, 0, false},
		{parts{most, full}, 0, false}, {parts{most, 1}, 0, false},
		{parts{least, 0}, 0, false}, {parts{least, full}, 0, false},
	} {
		if n, ok := made(x.p).Num(); n != x.n || ok != x.ok {
			t.Errorf("P2.1: Num of %v: %d, %v, not %d, %v", x.p, n, ok, x.n, x.ok)
		}
	}
}

func TestQuo(t *testing.T) {
	for _, x := range []struct {
		p    parts
		n, q int64
		ok   bool
	}{
		{parts{0, 7}, 2, 3, true}, {parts{0, 8}, 2, 4, true}, {parts{0, 1}, 2, 0, true},
		{parts{0, 7}, 7, 1, true}, {parts{0, 7}, 8, 0, true}, {parts{0, 7}, most, 0, true},
		// towards 0, below 0 too
		{parts{-1, full - 6}, 2, -3, true}, {parts{-1, full - 7}, 2, -4, true}, {parts{-1, full}, 2, 0, true},
		{parts{-1, full - 6}, 7, -1, true}, {parts{-1, full - 6}, 8, 0, true}, {parts{-1, full}, most, 0, true},
		{parts{-3, full}, 1 << 62, -8, true}, {parts{-2, 0}, 1<<62 + 1, -7, true},
		// at the ends of an int64
		{parts{0, half - 1}, 1, most, true}, {parts{0, half}, 1, 0, false},
		{parts{0, half - 1}, most, 1, true}, {parts{0, half}, most, 1, true},
		{parts{0, full}, 2, most, true}, {parts{1, 0}, 2, 0, false}, {parts{1, 0}, 3, 6148914691236517205, true},
		{parts{-1, half}, 1, least, true}, {parts{-1, half - 1}, 1, 0, false},
		{parts{-1, half}, most, -1, true},
		{parts{-1, 1}, 2, -most, true}, {parts{-1, 0}, 2, least, true}, {parts{-2, full}, 2, least, true},
		{parts{-2, full - 1}, 2, 0, false}, {parts{-1, 0}, 1, 0, false},
		// a quotient just below 2^64, at it, above it
		{parts{2, full}, 3, 0, false}, {parts{3, 0}, 3, 0, false}, {parts{4, 0}, 3, 0, false},
		{parts{-3, 1}, 3, 0, false}, {parts{-3, 0}, 3, 0, false}, {parts{-5, 0}, 3, 0, false},
		// at the ends of a Wide
		{parts{most, full}, 1, 0, false}, {parts{most, full}, most, 0, false},
		{parts{least, 0}, 1, 0, false}, {parts{least, 0}, most, 0, false}, {parts{least, 1}, most, 0, false},
		{parts{1<<62 - 1, 1}, most, most, true}, {parts{1<<62 - 1, half - 1}, most, most, true},
		{parts{1<<62 - 1, half}, most, 0, false},
		{parts{-1 << 62, half}, most, least, true}, {parts{-1 << 62, 2}, most, least, true},
		{parts{-1 << 62, 1}, most, 0, false},
	} {
		if q, ok := made(x.p).Quo(x.n); q != x.q || ok != x.ok {
			t.Errorf("P2.1: %v by %d: %d, %v, not %d, %v", x.p, x.n, q, ok, x.q, x.ok)
		}
	}
}

func TestQuoByLessThanOne(t *testing.T) {
	for _, p := range rising() {
		for _, n := range []int64{0, -1, -2, -7, -1 << 32, least + 1, least} {
			if q, ok := made(p).Quo(n); q != 0 || ok {
				t.Errorf("P2.1: %v by %d: %d, %v", p, n, q, ok)
			}
		}
	}
}

func TestCompare(t *testing.T) {
	l := rising()
	for i, p := range l {
		for k, r := range l {
			want := 0
			if i < k {
				want = -1
			} else if i > k {
				want = 1
			}
			if got := made(p).Compare(made(r)); got != want {
				t.Errorf("P2.1: Compare of %v and %v is %d, not %d", p, r, got, want)
			}
		}
	}
}

// Sums that leave an int64's room on their way and come back to it.
func TestLongSums(t *testing.T) {
	var w wide.Wide
	for range 1000 {
		w = w.Add(wide.Of(most))
	}
	if got := told(w); got != told(wide.Of(most).Times(1000)) || got != (parts{499, full - 999}) {
		t.Errorf("P2.1: the greatest int64 a thousand times is %v", got)
	}
	if q, ok := w.Quo(1000); q != most || !ok {
		t.Errorf("P2.1: a thousandth of it: %d, %v", q, ok)
	}
	for range 1000 {
		w = w.Add(wide.Of(least))
	}
	if n, ok := w.Num(); n != -1000 || !ok {
		t.Errorf("P2.1: with the least a thousand times it is %d, %v", n, ok)
	}
}

// great gives a Wide as a great number.
func great(w wide.Wide) *big.Int {
	p := told(w)
	x := new(big.Int).Lsh(big.NewInt(p.hi), 64)
	return x.Add(x, new(big.Int).SetUint64(p.lo))
}

// round lets a great number go round, by a whole turn as often as it must.
func round(x *big.Int) *big.Int {
	end := new(big.Int).Lsh(big.NewInt(1), 127)
	x.Add(x, end)
	x.Mod(x, new(big.Int).Lsh(end, 1))
	return x.Sub(x, end)
}

func TestPairsAgainstGreatNumbers(t *testing.T) {
	for _, p := range rising() {
		for _, r := range rising() {
			a, b := made(p), made(r)
			x, y := great(a), great(b)
			if want := round(new(big.Int).Add(x, y)); great(a.Add(b)).Cmp(want) != 0 {
				t.Errorf("P2.1: %v and %v are %v, not %v", x, y, great(a.Add(b)), want)
			}
			if want := round(new(big.Int).Sub(x, y)); great(a.Add(b.Neg())).Cmp(want) != 0 {
				t.Errorf("P2.1: %v without %v is %v, not %v", x, y, great(a.Add(b.Neg())), want)
			}
			if a.Compare(b) != x.Cmp(y) {
				t.Errorf("P2.1: Compare of %v and %v is %d", x, y, a.Compare(b))
			}
		}
	}
}

func TestFactorsAgainstGreatNumbers(t *testing.T) {
	for _, p := range rising() {
		for _, n := range factors() {
			a := made(p)
			x, y := great(a), big.NewInt(n)
			if want := round(new(big.Int).Mul(x, y)); great(a.Times(n)).Cmp(want) != 0 {
				t.Errorf("P2.1: %v times %d is %v, not %v", x, n, great(a.Times(n)), want)
			}
			want, ok := int64(0), false
			if n >= 1 {
				whole := new(big.Int).Quo(x, y)
				if ok = whole.IsInt64(); ok {
					want = whole.Int64()
				}
			}
			if q, got := a.Quo(n); q != want || got != ok {
				t.Errorf("P2.1: %v by %d: %d, %v, not %d, %v", x, n, q, got, want, ok)
			}
		}
	}
}

// A call changes nothing, and behind others it answers as it did.
func TestCallsChangeNothing(t *testing.T) {
	for _, p := range rising() {
		w, x := made(p), made(parts{-3, full})
		sum, back, product := told(w.Add(x)), told(w.Neg()), told(w.Times(-7))
		w.Num()
		w.Quo(7)
		w.Compare(x)
		if told(w) != p || told(x) != (parts{-3, full}) {
			t.Errorf("P0.3: a call changed %v", p)
		}
		if told(w.Add(x)) != sum || told(w.Neg()) != back || told(w.Times(-7)) != product {
			t.Errorf("P0.5: the same calls of %v, asked twice, answer otherwise", p)
		}
	}
}
