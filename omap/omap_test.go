package omap_test

import (
	"cmp"
	"math"
	"slices"
	"strings"
	"testing"

	"asterism/omap"
)

// pair is a key and what it has.
type pair struct {
	key int
	val string
}

func up(a, b int) int   { return cmp.Compare(a, b) }
func down(a, b int) int { return cmp.Compare(b, a) }

// halves holds 0 and 1 to be like, 2 and 3, and so on.
func halves(a, b int) int { return cmp.Compare(a/2, b/2) }

// far says what up says, by the farthest numbers.
func far(a, b int) int {
	switch up(a, b) {
	case -1:
		return math.MinInt
	case 1:
		return math.MaxInt
	}
	return 0
}

// orders has all orders that the tests go through, by name.
func orders() map[string]func(a, b int) int {
	return map[string]func(a, b int) int{"up": up, "down": down, "halves": halves, "far": far}
}

// plain is what a map is to be: a list, gone through one by one.
type plain struct {
	compare func(a, b int) int
	l       []pair
}

func (p *plain) place(k int) int {
	return slices.IndexFunc(p.l, func(x pair) bool { return p.compare(x.key, k) == 0 })
}

func (p *plain) put(k int, v string) bool {
	if at := p.place(k); at >= 0 {
		p.l[at].val = v
		return false
	}
	p.l = slices.Insert(p.l, p.rank(k), pair{k, v})
	return true
}

func (p *plain) del(k int) bool {
	at := p.place(k)
	if at >= 0 {
		p.l = slices.Delete(p.l, at, at+1)
	}
	return at >= 0
}

func (p *plain) get(k int) (string, bool) {
	if at := p.place(k); at >= 0 {
		return p.l[at].val, true
	}
	return "", false
}

func (p *plain) rank(k int) int {
	below := 0
	for _, x := range p.l {
		if p.compare(x.key, k) < 0 {
			below++
		}
	}
	return below
}

// listed is what All has.
func listed(m *omap.Map[int, string]) []pair {
	var l []pair
	for k, v := range m.All() {
		l = append(l, pair{k, v})
	}
	return l
}

// of is a map of the keys, each of which has its text.
func of(compare func(a, b int) int, keys ...int) *omap.Map[int, string] {
	m := omap.New[int, string](compare)
	for _, k := range keys {
		m.Put(k, text(k))
	}
	return m
}

func text(k int) string { return strings.Repeat("x", k&7) + string(rune('a'+k&15)) }

// same holds all that m tells of the keys from -1 to most against p.
func same(t *testing.T, m *omap.Map[int, string], p *plain, most int) {
	t.Helper()
	if got := listed(m); !slices.Equal(got, p.l) {
		t.Fatalf("P4.1: All: %v, not %v", got, p.l)
	}
	if m.Len() != len(p.l) {
		t.Fatalf("P4.1: Len: %d, not %d", m.Len(), len(p.l))
	}
	for k := -1; k <= most; k++ {
		v, ok := m.Get(k)
		if want, in := p.get(k); v != want || ok != in {
			t.Fatalf("P4.1: Get(%d): %q, %v, not %q, %v", k, v, ok, want, in)
		}
		if got, want := m.Rank(k), p.rank(k); got != want {
			t.Fatalf("P4.1: Rank(%d): %d, not %d", k, got, want)
		}
	}
	for i := -1; i <= len(p.l); i++ {
		k, v, ok := m.At(i)
		want, in := pair{}, i >= 0 && i < len(p.l)
		if in {
			want = p.l[i]
		}
		if (pair{k, v}) != want || ok != in {
			t.Fatalf("P4.1: At(%d): %d, %q, %v, not %v, %v", i, k, v, ok, want, in)
		}
	}
}

// tell puts or deletes a key in both, and holds the answers against each other.
func tell(t *testing.T, m *omap.Map[int, string], p *plain, put bool, k int, v string) {
	t.Helper()
	if put {
		if got, want := m.Put(k, v), p.put(k, v); got != want {
			t.Fatalf("P4.1: Put(%d): %v, not %v", k, got, want)
		}
		return
	}
	if got, want := m.Del(k), p.del(k); got != want {
		t.Fatalf("P4.1: Del(%d): %v, not %v", k, got, want)
	}
}

func TestNew(t *testing.T) {
	m := omap.New[int, string](up)
	same(t, m, &plain{compare: up}, 2)
	if m.Del(1) {
		t.Error("P4.1: Del of an empty map")
	}
	same(t, m, &plain{compare: up}, 2)
}

func TestPutTellsWhatIsNew(t *testing.T) {
	m := omap.New[string, int](strings.Compare)
	for k, x := range []struct {
		key  string
		val  int
		want bool
	}{{"b", 1, true}, {"a", 2, true}, {"b", 3, false}, {"", 4, true}, {"b", 3, false}, {"ab", 0, true}} {
		if got := m.Put(x.key, x.val); got != x.want {
			t.Errorf("P4.1: Put %d of %q: %v", k, x.key, got)
		}
		if v, ok := m.Get(x.key); v != x.val || !ok {
			t.Errorf("P4.1: Get of %q: %d, %v", x.key, v, ok)
		}
	}
	var keys []string
	for k := range m.All() {
		keys = append(keys, k)
	}
	if want := []string{"", "a", "ab", "b"}; !slices.Equal(keys, want) {
		t.Errorf("P4.1: All: %q, not %q", keys, want)
	}
}

func TestALikeKeyStays(t *testing.T) {
	m := omap.New[string, int](func(a, b string) int {
		return strings.Compare(strings.ToLower(a), strings.ToLower(b))
	})
	m.Put("North", 1)
	m.Put("Amber", 2)
	m.Put("South", 3)
	for _, like := range []string{"NORTH", "amber", "sOUTH", "north"} {
		if m.Put(like, 9) {
			t.Errorf("P4.1: %q is new", like)
		}
	}
	var keys []string
	for k, v := range m.All() {
		if keys = append(keys, k); v != 9 {
			t.Errorf("P4.1: %q has %d", k, v)
		}
	}
	if want := []string{"Amber", "North", "South"}; !slices.Equal(keys, want) {
		t.Errorf("P4.1: the keys are %q, not %q", keys, want)
	}
	if m.Rank("NORTH") != 1 || m.Rank("AMBER") != 0 {
		t.Errorf("P4.1: Rank of like keys: %d, %d", m.Rank("NORTH"), m.Rank("AMBER"))
	}
	if !m.Del("nORTH") || !m.Put("NORTH", 4) {
		t.Error("P4.1: a like key is not deleted")
	}
	if k, v, ok := m.At(1); k != "NORTH" || v != 4 || !ok {
		t.Errorf("P4.1: At(1) behind Del: %q, %d", k, v)
	}
}

// All ways to put and to delete four keys, up to six times one behind the other.
func TestAllSmallMaps(t *testing.T) {
	const most, steps = 4, 6
	for name, compare := range orders() {
		for way := range 1 << (3 * steps) {
			m, p := omap.New[int, string](compare), &plain{compare: compare}
			for i := range steps {
				step := way >> (3 * i) & 7
				tell(t, m, p, step < most, step%most, string(rune('a'+i)))
			}
			if got := listed(m); !slices.Equal(got, p.l) {
				t.Fatalf("P4.1, %s: way %o: %v, not %v", name, way, got, p.l)
			}
			if way%61 == 0 {
				same(t, m, p, most)
			}
		}
	}
}

// next goes through numbers that look mixed.
func next(x *uint64, below int) int {
	*x = *x*6364136223846793005 + 1442695040888963407
	return int(*x>>33) % below
}

func TestManyChanges(t *testing.T) {
	for name, compare := range orders() {
		x := uint64(len(name))
		m, p := omap.New[int, string](compare), &plain{compare: compare}
		for i := range 1500 {
			// At first more is put than deleted, then it is the other way.
			put := next(&x, 10) < 8-i/300
			tell(t, m, p, put, next(&x, 150), text(i))
			if i%25 == 0 {
				same(t, m, p, 150)
			}
		}
		same(t, m, p, 150)
	}
}

// From each size each one is deleted, and the one at each place.
func TestDelOfEach(t *testing.T) {
	for n := range 40 {
		for k := range n {
			m, p := omap.New[int, string](up), &plain{compare: up}
			for i := range n {
				tell(t, m, p, true, i*7%41, text(i))
			}
			key, _, _ := m.At(k)
			tell(t, m, p, false, key, "")
			same(t, m, p, 41)
			tell(t, m, p, false, key, "")
			same(t, m, p, 41)
		}
	}
}

func TestAtAndRankAreEachOthersWayBack(t *testing.T) {
	m := of(up, -5, 10, 3, 7, math.MinInt, math.MaxInt)
	for i := range m.Len() {
		if k, _, ok := m.At(i); !ok || m.Rank(k) != i {
			t.Errorf("P4.1: At(%d) is %d, its Rank %d", i, k, m.Rank(k))
		}
	}
	for _, x := range []struct{ key, want int }{{-6, 1}, {-4, 2}, {0, 2}, {4, 3}, {11, 5}, {math.MaxInt - 1, 5}} {
		if got := m.Rank(x.key); got != x.want {
			t.Errorf("P4.1: Rank(%d) of a key that is not there: %d, not %d", x.key, got, x.want)
		}
	}
}

func TestAtOfNoPlace(t *testing.T) {
	m := of(up, 1, 2, 3)
	for _, i := range []int{-1, 3, 4, math.MinInt, math.MinInt + 1, math.MaxInt} {
		if k, v, ok := m.At(i); k != 0 || v != "" || ok {
			t.Errorf("P0.2: At(%d): %d, %q, %v", i, k, v, ok)
		}
	}
}

func TestGetOfNoKey(t *testing.T) {
	m := omap.New[int, *int](up)
	one := 1
	m.Put(1, &one)
	m.Put(2, nil)
	if v, ok := m.Get(0); v != nil || ok {
		t.Errorf("P0.2: Get of no key: %v, %v", v, ok)
	}
	if v, ok := m.Get(2); v != nil || !ok {
		t.Errorf("P4.1: Get of a key that has nil: %v, %v", v, ok)
	}
	if v, ok := m.Get(1); v != &one || !ok {
		t.Errorf("P4.1: Get: %v, %v", v, ok)
	}
}

func TestAllIsLeftAndBegunAgain(t *testing.T) {
	m := of(up, 4, 2, 8, 6, 0)
	want := listed(m)
	all := m.All()
	for stop := 1; stop <= len(want); stop++ {
		var got []pair
		for k, v := range all {
			if got = append(got, pair{k, v}); len(got) == stop {
				break
			}
		}
		if !slices.Equal(got, want[:stop]) {
			t.Errorf("P4.1: All, left at %d: %v", stop, got)
		}
	}
	for range all {
		var inner []int
		for k := range all {
			inner = append(inner, k)
		}
		if !slices.Equal(inner, []int{0, 2, 4, 6, 8}) {
			t.Errorf("P4.1: All, within itself: %v", inner)
		}
	}
}

// P0.5: what All answered hangs on what was told before it.
func TestAllStaysAsItWas(t *testing.T) {
	m := of(up, 1, 2, 3, 4, 5)
	want, all := listed(m), m.All()
	for range 2 {
		var got []pair
		for k, v := range all {
			got = append(got, pair{k, v})
			m.Del(6 - k)
			m.Put(k+10, "new")
			m.Put(k, "other")
		}
		if !slices.Equal(got, want) {
			t.Errorf("P0.5: All, with changes meanwhile: %v, not %v", got, want)
		}
	}
	keys := []int{}
	for k := range m.All() {
		keys = append(keys, k)
	}
	if want := []int{3, 4, 5, 11, 12, 13, 14, 15}; !slices.Equal(keys, want) {
		t.Errorf("P4.1: All behind the changes: %v, not %v", keys, want)
	}
	none := omap.New[int, string](up)
	empty := none.All()
	none.Put(1, "")
	for k := range empty {
		t.Errorf("P0.5: All of what was empty has %d", k)
	}
}

func TestMapsAreApart(t *testing.T) {
	a, b := of(up, 1, 2), of(up, 2, 3)
	a.Put(2, "a")
	b.Del(3)
	if got, want := listed(a), []pair{{1, text(1)}, {2, "a"}}; !slices.Equal(got, want) {
		t.Errorf("P0.5: one: %v, not %v", got, want)
	}
	if got, want := listed(b), []pair{{2, text(2)}}; !slices.Equal(got, want) {
		t.Errorf("P0.5: another: %v, not %v", got, want)
	}
}

func TestNoMap(t *testing.T) {
	for name, m := range map[string]*omap.Map[int, string]{
		"nil": nil, "of a nil compare": omap.New[int, string](nil), "zero": new(omap.Map[int, string]),
	} {
		for range 2 {
			if m.Put(1, "a") || m.Del(1) || m.Len() != 0 || m.Rank(1) != 0 || m.Rank(-1) != 0 {
				t.Errorf("P4.1, %s: it is not empty", name)
			}
		}
		if v, ok := m.Get(1); v != "" || ok {
			t.Errorf("P4.1, %s: Get: %q, %v", name, v, ok)
		}
		if k, v, ok := m.At(0); k != 0 || v != "" || ok {
			t.Errorf("P4.1, %s: At: %d, %q, %v", name, k, v, ok)
		}
		if m.All() == nil {
			t.Errorf("P0.4, %s: All is nil", name)
		}
		if l := listed(m); len(l) != 0 {
			t.Errorf("P4.1, %s: All: %v", name, l)
		}
	}
}

func TestKeysOfManyKinds(t *testing.T) {
	f := omap.New[float64, int](cmp.Compare[float64])
	for i, k := range []float64{math.Inf(1), math.NaN(), 0, math.Copysign(0, -1), math.NaN(), math.Inf(-1)} {
		if got, want := f.Put(k, i), i != 3 && i != 4; got != want {
			t.Errorf("P4.1: Put of %v: %v", k, got)
		}
	}
	if v, ok := f.Get(math.NaN()); v != 4 || !ok || f.Len() != 4 || f.Rank(0) != 2 {
		t.Errorf("P4.1: of floats: %d, %v, %d, %d", v, ok, f.Len(), f.Rank(0))
	}
	l := omap.New[[]int, struct{}](slices.Compare[[]int])
	for _, k := range [][]int{{2}, {1, 5}, nil, {1}, {}} {
		l.Put(k, struct{}{})
	}
	var keys [][]int
	for k := range l.All() {
		keys = append(keys, k)
	}
	if want := [][]int{nil, {1}, {1, 5}, {2}}; !slices.EqualFunc(keys, want, slices.Equal[[]int]) {
		t.Errorf("P4.1: of lists: %v, not %v", keys, want)
	}
}
