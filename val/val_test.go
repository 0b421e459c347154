package val_test

import (
	"math"
	"slices"
	"strings"
	"testing"

	"asterism/api"
	"asterism/val"
)

func null() api.Value { return api.Value{} }

func num(n int64) api.Value { return api.Value{Kind: api.VInt, N: n} }

func text(s string) api.Value { return api.Value{Kind: api.VText, S: s} }

// mayNot has values of every way in which one may not be.
func mayNot() []api.Value {
	return []api.Value{
		{Kind: api.VNull, N: 1},
		{Kind: api.VNull, N: -1},
		{Kind: api.VNull, S: "x"},
		{Kind: api.VInt, S: "x"},
		{Kind: api.VInt, N: 5, S: "5"},
		{Kind: api.VText, N: 1},
		{Kind: api.VText, N: math.MinInt64, S: "x"},
		{Kind: 3},
		{Kind: 3, N: 1, S: "x"},
		{Kind: -1},
		{Kind: math.MaxInt},
		{Kind: math.MinInt},
		text(strings.Repeat("x", api.MaxText+1)),
		text(strings.Repeat("x", 1<<20)),
		text("a'b"),
		text("'"),
		text("\x00"),
		text("a\n"),
		text("é"),
		text("\xff"),
	}
}

func TestMayOfWhatMayBe(t *testing.T) {
	for _, v := range []api.Value{
		null(),
		num(0), num(1), num(-1), num(math.MaxInt64), num(math.MinInt64),
		text(""), text(" "), text("~"), text("&("), text("Null"), text(`a"b\c`),
		text(strings.Repeat("x", api.MaxText)),
	} {
		if !val.May(v) {
			t.Errorf("P1.1: May(%#v) is false", v)
		}
	}
}

func TestMayOfWhatMayNotBe(t *testing.T) {
	for _, v := range mayNot() {
		if val.May(v) {
			t.Errorf("P1.1: May(%.60q, %d, %d) is true", v.S, v.Kind, v.N)
		}
	}
}

// Each byte at each place: a text is not asked of its first byte alone.
func TestMayOfEachByte(t *testing.T) {
	for b := range 256 {
		want := 32 <= b && b <= 126 && b != 39
		for place := range api.MaxText {
			s := []byte(strings.Repeat("x", api.MaxText))
			s[place] = byte(b)
			if val.May(text(string(s))) != want {
				t.Errorf("P1.1: May of a text with the byte %d at %d is %v", b, place, !want)
			}
		}
	}
}

// rising has values, each below the next: Kind counts ahead of N, N ahead of S.
func rising() []api.Value {
	return []api.Value{
		{Kind: math.MinInt, N: math.MaxInt64, S: "z"},
		{Kind: -1, N: math.MaxInt64, S: "z"},
		{N: -1, S: "z"},
		null(),
		{S: "a"},
		{N: 1},
		num(math.MinInt64), num(-10), num(-9), num(-1), num(0),
		{Kind: api.VInt, S: "a"},
		num(1), num(9), num(10), num(math.MaxInt64),
		{Kind: api.VText, N: -1, S: "z"},
		text(""), text(" "), text("10"), text("9"), text("B"), text("_"),
		text("a"), text("aa"), text("ab"), text("b"), text("\x80"), text("é"), text("\xff"),
		{Kind: api.VText, N: 1},
		{Kind: math.MaxInt, N: math.MinInt64},
	}
}

func order(i, k int) int {
	if i < k {
		return -1
	}
	if i > k {
		return 1
	}
	return 0
}

func TestCompareAndEq(t *testing.T) {
	for i, a := range rising() {
		for k, b := range rising() {
			if got := val.Compare(a, b); got != order(i, k) {
				t.Errorf("P1.1: Compare(%#v, %#v) is %d", a, b, got)
			}
			if got := val.Eq(a, b); got != (i == k) {
				t.Errorf("P1.1: Eq(%#v, %#v) is %v", a, b, got)
			}
		}
	}
}

// told writes a 1 for each op from OpEq to OpNotNull that says yes.
func told(a, b api.Value) string {
	s := ""
	for op := api.OpEq; op <= api.OpNotNull; op++ {
		if val.Test(op, a, b) {
			s += "1"
		} else {
			s += "0"
		}
	}
	return s
}

func TestTest(t *testing.T) {
	const below, like, above = "01110001", "10010101", "01001101"
	const isNull, unlike = "00000010", "00000001"
	for _, x := range []struct {
		a, b api.Value
		want string
	}{
		{num(1), num(2), below}, {num(2), num(2), like}, {num(3), num(2), above},
		{num(-2), num(1), below}, {num(9), num(10), below},
		{num(math.MinInt64), num(math.MaxInt64), below},
		{num(math.MaxInt64), num(math.MinInt64), above},
		{num(math.MinInt64), num(math.MinInt64), like},
		{num(math.MaxInt64), num(math.MaxInt64), like},
		{text("a"), text("b"), below}, {text("b"), text("b"), like}, {text("c"), text("b"), above},
		{text("a"), text("ab"), below}, {text("9"), text("10"), above}, {text(""), text(""), like},
		{null(), null(), isNull}, {null(), num(0), isNull}, {null(), text(""), isNull},
		{num(0), null(), unlike}, {text(""), null(), unlike},
		{num(1), text("1"), unlike}, {text("1"), num(1), unlike},
		{api.Value{N: 1}, api.Value{N: 1}, isNull}, {api.Value{S: "a"}, num(1), isNull},
		{num(1), api.Value{N: 1}, unlike},
		{api.Value{Kind: 3}, api.Value{Kind: 3}, like}, {api.Value{Kind: 3}, num(1), unlike},
	} {
		if got := told(x.a, x.b); got != x.want {
			t.Errorf("P1.1: Test(1 to 8, %#v, %#v) are %s, not %s", x.a, x.b, got, x.want)
		}
	}
}

func TestTestOfNoSuchOp(t *testing.T) {
	for _, op := range []int{0, -1, api.OpNotNull + 1, 100, math.MinInt, math.MaxInt} {
		for _, a := range []api.Value{null(), num(1), num(2), text("a")} {
			for _, b := range []api.Value{null(), num(1), num(2), text("a")} {
				if val.Test(op, a, b) {
					t.Errorf("P1.1: Test(%d, %#v, %#v) is true", op, a, b)
				}
			}
		}
	}
}

func TestText(t *testing.T) {
	for _, x := range []struct {
		v    api.Value
		want string
	}{
		{null(), "null"},
		{num(0), "0"}, {num(7), "7"}, {num(-7), "-7"}, {num(1000000), "1000000"},
		{num(math.MaxInt64), "9223372036854775807"}, {num(math.MinInt64), "-9223372036854775808"},
		{text(""), "''"}, {text("null"), "'null'"}, {text("-7"), "'-7'"},
		{text(` a"b\ ~`), `' a"b\ ~'`}, {text("abcdefghijkl"), "'abcdefghijkl'"},
	} {
		if got := val.Text(x.v); got != x.want {
			t.Errorf("P1.1: Text(%#v) is %q, not %q", x.v, got, x.want)
		}
	}
}

// The chapter gives only what may be a text, so the rest has the empty one (P0.2).
func TestTextOfWhatMayNotBe(t *testing.T) {
	for _, v := range mayNot() {
		if got := val.Text(v); got != "" {
			t.Errorf("P0.2: Text(%.60q, %d, %d) is %.60q", v.S, v.Kind, v.N, got)
		}
	}
}

func TestRow(t *testing.T) {
	for _, x := range []struct {
		a, b []api.Value
		want int
	}{
		{nil, nil, 0},
		{nil, []api.Value{}, 0},
		{nil, []api.Value{null()}, -1},
		{[]api.Value{num(1)}, []api.Value{num(1)}, 0},
		{[]api.Value{num(1)}, []api.Value{num(1), null()}, -1},
		{[]api.Value{num(1)}, []api.Value{num(1), num(-1)}, -1},
		{[]api.Value{num(1), num(9)}, []api.Value{num(2)}, -1},
		{[]api.Value{num(1), num(2)}, []api.Value{num(1), num(3)}, -1},
		{[]api.Value{num(1), num(3)}, []api.Value{num(2), num(1)}, -1},
		{[]api.Value{null(), text("b")}, []api.Value{num(0), text("a")}, -1},
		{[]api.Value{num(9), num(9)}, []api.Value{text("")}, -1},
		{[]api.Value{text("a"), null()}, []api.Value{text("a"), null()}, 0},
	} {
		if got := val.Row(x.a, x.b); got != x.want {
			t.Errorf("P1.1: Row(%#v, %#v) is %d, not %d", x.a, x.b, got, x.want)
		}
		if got := val.Row(x.b, x.a); got != -x.want {
			t.Errorf("P1.1: Row(%#v, %#v) is %d, not %d", x.b, x.a, got, -x.want)
		}
	}
}

func TestRowOfBeginnings(t *testing.T) {
	l := rising()
	for i := range l {
		for k := range l {
			if got := val.Row(l[:i], l[:k]); got != order(i, k) {
				t.Errorf("P1.1: Row of the first %d and the first %d is %d", i, k, got)
			}
		}
	}
}

func TestRowLeavesListsAsTheyAre(t *testing.T) {
	a, b := rising(), rising()
	slices.Reverse(b)
	keptA, keptB := slices.Clone(a), slices.Clone(b)
	val.Row(a[:3], b[:5])
	val.Row(b[:5], a[:3])
	if !slices.Equal(a, keptA) || !slices.Equal(b, keptB) {
		t.Error("P0.3: Row changed a list, or its spare room")
	}
}

func TestNameOfEachByte(t *testing.T) {
	for b := range 256 {
		letter := 'a' <= b && b <= 'z' || b == '_'
		digit := '0' <= b && b <= '9'
		c := string([]byte{byte(b)})
		if val.Name(c) != letter || val.Name(c+"x") != letter {
			t.Errorf("P1.1: Name of a text whose first byte is %d is %v", b, !letter)
		}
		for _, s := range []string{"x" + c, "x" + c + "x", strings.Repeat("x", 11) + c} {
			if val.Name(s) != (letter || digit) {
				t.Errorf("P1.1: Name(%q) is %v", s, !(letter || digit))
			}
		}
	}
}

func TestNameOfEachLength(t *testing.T) {
	for n := range 300 {
		if got := val.Name(strings.Repeat("n", n)); got != (1 <= n && n <= api.MaxName) {
			t.Errorf("P1.1: Name of %d bytes is %v", n, got)
		}
	}
	if val.Name(strings.Repeat("n", 1<<20)) {
		t.Error("P1.1: Name of 2^20 bytes is true")
	}
}

func TestNameOfKeyWords(t *testing.T) {
	for _, s := range strings.Fields(`table key fd int text must to load insert
		delete update summary on by keep drop from where and is not null rollup
		cube show having order desc limit using base count sum min max avg
		distinct rows`) {
		if val.Name(s) {
			t.Errorf("P1.1: Name(%q), a key word, is true", s)
		}
		for _, near := range []string{s + "_", "_" + s, s + "1", s + "x"} {
			if !val.Name(near) {
				t.Errorf("P1.1: Name(%q) is false", near)
			}
		}
		for _, bad := range []string{strings.ToUpper(s), s + " ", " " + s, "1" + s} {
			if val.Name(bad) {
				t.Errorf("P1.1: Name(%q) is true", bad)
			}
		}
	}
	for _, s := range []string{"asc", "or", "group", "select", "as", "in", "row", "tables"} {
		if !val.Name(s) {
			t.Errorf("P1.1: Name(%q), no key word, is false", s)
		}
	}
}

// No call panics, and a call behind others answers as it did (P0.1, P0.5).
func TestAnyArguments(t *testing.T) {
	values := append(rising(), mayNot()...)
	answers := func() (l []int) {
		for _, a := range values {
			for _, b := range values {
				l = append(l, val.Compare(a, b), val.Row([]api.Value{a}, []api.Value{b, a}))
				for op := -1; op <= api.OpNotNull+1; op++ {
					if val.Test(op, a, b) {
						l = append(l, op)
					}
				}
			}
			l = append(l, len(val.Text(a)))
			if val.May(a) || val.Name(a.S) {
				l = append(l, 1)
			}
		}
		return l
	}
	if !slices.Equal(answers(), answers()) {
		t.Error("P0.5: the same calls, asked twice, answer otherwise")
	}
}
