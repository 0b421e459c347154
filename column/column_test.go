package column_test

import (
	"math"
	"slices"
	"strconv"
	"strings"
	"testing"

	"asterism/api"
	"asterism/column"
)

func null() api.Value { return api.Value{} }

func num(n int64) api.Value { return api.Value{Kind: api.VInt, N: n} }

func text(s string) api.Value { return api.Value{Kind: api.VText, S: s} }

// mayNot has values of every way in which one may not be.
func mayNot() []api.Value {
	return []api.Value{
		{Kind: api.VNull, N: 1},
		{Kind: api.VNull, S: "x"},
		{Kind: api.VInt, S: "x"},
		{Kind: api.VInt, N: 5, S: "5"},
		{Kind: api.VText, N: 1},
		{Kind: api.VText, N: math.MinInt64, S: "x"},
		{Kind: 3},
		{Kind: -1},
		{Kind: math.MaxInt, N: 1, S: "x"},
		{Kind: math.MinInt},
		text(strings.Repeat("x", api.MaxText+1)),
		text(strings.Repeat("x", 1<<20)),
		text("it's"), text("\x1f"), text("a\x7f"), text("é"), text("\xff"),
	}
}

// numbers and texts have values that may stand in a column of their kind.
func numbers() []api.Value {
	return []api.Value{num(0), num(1), num(-1), num(math.MaxInt64), num(math.MinInt64)}
}

func texts() []api.Value {
	return []api.Value{text(""), text(" "), text("~"), text("null"), text("1"), text(strings.Repeat("x", api.MaxText))}
}

// noPlaces are numbers of no value, of a column of n values.
func noPlaces(n int) []int {
	return []int{-1, n, n + 1, math.MinInt, math.MaxInt, n + 1<<32, -n - 1}
}

// same holds all that c tells against want, value by value.
func same(t *testing.T, c *column.Column, want []api.Value) {
	t.Helper()
	var words []string
	nulls := 0
	for _, v := range want {
		if v.Kind == api.VNull {
			nulls++
		}
		if v.Kind == api.VText && !slices.Contains(words, v.S) {
			words = append(words, v.S)
		}
	}
	if c.Len() != len(want) || c.Words() != len(words) || c.Nulls() != nulls {
		t.Fatalf("P6.1: Len %d, Words %d, Nulls %d of %v", c.Len(), c.Words(), c.Nulls(), want)
	}
	for i, v := range want {
		if got, ok := c.At(i); got != v || !ok {
			t.Fatalf("P6.1: At(%d): %v, %v, not %v", i, got, ok, v)
		}
	}
	for _, i := range noPlaces(len(want)) {
		if v, ok := c.At(i); v != null() || ok {
			t.Fatalf("P6.1: At(%d) of %d: %v, %v", i, len(want), v, ok)
		}
	}
}

// filled is a column of the kind with the values, which it must take.
func filled(t *testing.T, kind int, vals []api.Value) *column.Column {
	t.Helper()
	c := column.New(kind)
	for i, v := range vals {
		if !c.Append(v) {
			t.Fatalf("P6.1: Append of %v, the value %d", v, i)
		}
	}
	return c
}

func TestNew(t *testing.T) {
	for _, kind := range []int{api.VInt, api.VText} {
		c := column.New(kind)
		if c == nil {
			t.Fatalf("P6.1: New(%d) is nil", kind)
		}
		same(t, c, nil)
	}
	for _, kind := range []int{api.VNull, 3, -1, -2, math.MinInt, math.MaxInt, api.VInt + 1<<32, api.VText + 1<<32} {
		if column.New(kind) != nil {
			t.Errorf("P6.1: New(%d) is not nil", kind)
		}
	}
}

func TestAppend(t *testing.T) {
	for kind, vals := range map[int][]api.Value{api.VInt: numbers(), api.VText: texts()} {
		c := column.New(kind)
		var want []api.Value
		for range 3 {
			for _, v := range append(vals, null()) {
				if !c.Append(v) {
					t.Errorf("P6.1: Append of %v to a column of the kind %d", v, kind)
				}
				want = append(want, v)
				same(t, c, want)
			}
		}
	}
}

func TestAppendOfWhatMayNotStandThere(t *testing.T) {
	for kind, bad := range map[int][]api.Value{api.VInt: append(texts(), mayNot()...), api.VText: append(numbers(), mayNot()...)} {
		var want []api.Value
		c := column.New(kind)
		for range 2 {
			for _, v := range bad {
				if c.Append(v) {
					t.Errorf("P6.1: Append of %.60q, %d, %d to a column of the kind %d", v.S, v.Kind, v.N, kind)
				}
				same(t, c, want)
			}
			want = append(want, null())
			if !c.Append(null()) {
				t.Errorf("P6.1: Append of none to a column of the kind %d", kind)
			}
		}
	}
}

// Each value may come in each other one's place, its own too.
func TestSet(t *testing.T) {
	for kind, vals := range map[int][]api.Value{api.VInt: append(numbers(), null()), api.VText: append(texts(), null())} {
		for i := range vals {
			for _, v := range vals {
				c, want := filled(t, kind, vals), slices.Clone(vals)
				want[i] = v
				if !c.Set(i, v) {
					t.Errorf("P6.1: Set(%d, %v) in a column of the kind %d", i, v, kind)
				}
				same(t, c, want)
			}
		}
	}
}

func TestSetOfWhatMayNotStandThere(t *testing.T) {
	for kind, vals := range map[int][]api.Value{api.VInt: {num(1), null()}, api.VText: {text("a"), null()}} {
		bad := append(numbers(), mayNot()...)
		if kind == api.VInt {
			bad = append(texts(), mayNot()...)
		}
		c := filled(t, kind, vals)
		for _, v := range bad {
			for i := range vals {
				if c.Set(i, v) {
					t.Errorf("P6.1: Set(%d) of %.60q, %d, %d in a column of the kind %d", i, v.S, v.Kind, v.N, kind)
				}
				same(t, c, vals)
			}
		}
	}
}

func TestSetAtNoPlace(t *testing.T) {
	for n := range 4 {
		vals := texts()[:n]
		c := filled(t, api.VText, vals)
		for _, i := range noPlaces(n) {
			for _, v := range []api.Value{text("new"), text(""), null(), num(1)} {
				if c.Set(i, v) {
					t.Errorf("P6.1: Set(%d, %v) in a column of %d", i, v, n)
				}
				same(t, c, vals)
			}
		}
	}
}

// A text counts as one word as long as it stands anywhere.
func TestWords(t *testing.T) {
	vals := []api.Value{text("a"), text("b"), text("a"), text("a"), null()}
	c := filled(t, api.VText, vals)
	for _, x := range []struct {
		i            int
		v            api.Value
		words, nulls int
	}{
		{0, text("b"), 2, 1}, {2, null(), 2, 2}, {3, text("b"), 1, 2}, {3, text("b"), 1, 2}, {4, text(""), 2, 1},
		{4, text("b"), 1, 1}, {0, null(), 1, 2}, {1, null(), 1, 3}, {3, null(), 1, 4}, {4, null(), 0, 5}, {4, null(), 0, 5},
		{2, text("a"), 1, 4},
	} {
		if !c.Set(x.i, x.v) || c.Words() != x.words || c.Nulls() != x.nulls || c.Len() != len(vals) {
			t.Errorf("P6.1: behind Set(%d, %v) Words %d, Nulls %d, Len %d", x.i, x.v, c.Words(), c.Nulls(), c.Len())
		}
	}
}

// Numbers are no words, however many unlike ones there are.
func TestNoWordsOfNumbers(t *testing.T) {
	c := filled(t, api.VInt, append(numbers(), null(), num(7)))
	if c.Words() != 0 || c.Nulls() != 1 {
		t.Errorf("P6.1: a column of numbers: Words %d, Nulls %d", c.Words(), c.Nulls())
	}
	c.Set(5, num(7))
	c.Set(0, null())
	if c.Words() != 0 || c.Nulls() != 1 {
		t.Errorf("P6.1: a column of numbers, set: Words %d, Nulls %d", c.Words(), c.Nulls())
	}
}

// All ways to append and to set, five times one behind the other.
func TestAllSmallColumns(t *testing.T) {
	const steps = 5
	vals := []api.Value{text("a"), text("b"), null()}
	var on func(told [][2]int)
	on = func(told [][2]int) {
		c := column.New(api.VText)
		var want []api.Value
		for _, x := range told {
			if v := vals[x[1]]; x[0] == len(want) {
				want = append(want, v)
				c.Append(v)
			} else {
				want[x[0]] = v
				c.Set(x[0], v)
			}
		}
		same(t, c, want)
		if len(told) == steps {
			return
		}
		for i := range len(want) + 1 {
			for k := range vals {
				on(append(slices.Clone(told), [2]int{i, k}))
			}
		}
	}
	on(nil)
}

// next goes through numbers that look mixed.
func next(x *uint64, below int) int {
	*x = *x*6364136223846793005 + 1442695040888963407
	return int(*x>>33) % below
}

func TestManyChanges(t *testing.T) {
	for _, kind := range []int{api.VInt, api.VText} {
		for seed := range uint64(4) {
			x := seed
			c := column.New(kind)
			var want []api.Value
			for step := range 500 {
				v := []api.Value{null(), num(int64(next(&x, 9))), text(strconv.Itoa(next(&x, 9)))}[next(&x, 3)]
				takes := v.Kind == api.VNull || v.Kind == kind
				if i := next(&x, 60); i < len(want) {
					if c.Set(i, v) != takes {
						t.Fatalf("P6.1: Set(%d, %v) in a column of the kind %d is %v", i, v, kind, !takes)
					}
					if takes {
						want[i] = v
					}
				} else {
					if c.Append(v) != takes {
						t.Fatalf("P6.1: Append(%v) to a column of the kind %d is %v", v, kind, !takes)
					}
					if takes {
						want = append(want, v)
					}
				}
				if step%5 == 0 {
					same(t, c, want)
				}
			}
		}
	}
}

// P0.5: what is told to one column is not told to another.
func TestColumnsAreApart(t *testing.T) {
	vals := []api.Value{text("a"), null()}
	a, b := filled(t, api.VText, vals), filled(t, api.VText, vals)
	a.Set(0, text("b"))
	a.Append(text("c"))
	b.Append(null())
	same(t, a, []api.Value{text("b"), null(), text("c")})
	same(t, b, []api.Value{text("a"), null(), null()})
}

func TestNoColumn(t *testing.T) {
	var c *column.Column
	for range 2 {
		for _, v := range []api.Value{null(), num(1), text("a"), {Kind: 3}} {
			if c.Append(v) || c.Set(0, v) || c.Set(-1, v) {
				t.Errorf("P6.1: a nil *Column takes %v", v)
			}
		}
		same(t, c, nil)
	}
}

// P0.1: a Column that New didn't make is of neither kind, and none panics.
func TestZeroColumn(t *testing.T) {
	var c column.Column
	same(t, &c, nil)
	for _, v := range []api.Value{num(1), text("a"), {Kind: 3}, {N: 1}} {
		if c.Append(v) || c.Set(0, v) {
			t.Errorf("P6.1: a Column of neither kind takes %v", v)
		}
	}
	same(t, &c, nil)
}

func TestMany(t *testing.T) {
	const n = 1 << 16
	c := column.New(api.VText)
	for i := range n {
		if !c.Append(text(strconv.Itoa(i))) || c.Words() != i+1 || c.Len() != i+1 {
			t.Fatalf("P6.1: Append, the value %d", i)
		}
	}
	for i := range n {
		if v, ok := c.At(i); v != text(strconv.Itoa(i)) || !ok {
			t.Fatalf("P6.1: At(%d): %v", i, v)
		}
		if !c.Set(i, null()) || c.Words() != n-1-i || c.Nulls() != i+1 || c.Len() != n {
			t.Fatalf("P6.1: Set(%d)", i)
		}
	}
}
