package show_test

import (
	"math"
	"reflect"
	"slices"
	"strings"
	"testing"

	"asterism/api"
	"asterism/show"
)

func num(n int64) api.Value { return api.Value{Kind: api.VInt, N: n} }

func text(s string) api.Value { return api.Value{Kind: api.VText, S: s} }

func way(names ...string) api.Path { return names }

func agg(fn int, names ...string) api.Agg { return api.Agg{Fn: fn, Path: names} }

func cond(op int, v api.Value, names ...string) api.Cond {
	return api.Cond{Path: names, Op: op, Val: v}
}

func table(t api.Table) api.Stmt { return api.Stmt{Kind: api.STable, Table: t} }

func load(ops ...api.Op) api.Stmt { return api.Stmt{Kind: api.SLoad, Ops: ops} }

func summary(x api.Sum) api.Stmt { return api.Stmt{Kind: api.SSummary, Sum: x} }

func drop(name string) api.Stmt { return api.Stmt{Kind: api.SDrop, Name: name} }

func query(q api.Query) api.Stmt { return api.Stmt{Kind: api.SQuery, Query: q} }

// asks is a question of which only what f sets is more than must be.
func asks(f func(q *api.Query)) api.Stmt {
	q := api.Query{From: "t", Show: []api.Agg{agg(api.FnRows)}}
	f(&q)
	return query(q)
}

func insert(vals ...api.Value) api.Op {
	return api.Op{Do: api.DoInsert, Table: "t", Vals: vals}
}

func remove(id int) api.Op { return api.Op{Do: api.DoDelete, Table: "t", Id: id} }

func update(id int, col string, vals ...api.Value) api.Op {
	return api.Op{Do: api.DoUpdate, Table: "t", Id: id, Col: col, Vals: vals}
}

// says asks that x may be, and for its text.
func says(t *testing.T, x api.Stmt, want string) {
	t.Helper()
	if !show.May(x) {
		t.Errorf("P18.1: May is false of %.300q", want)
	}
	if got := show.Text(x); got != want {
		t.Errorf("P18.1: Text is %.300q, not %.300q", got, want)
	}
}

// none asks that x may not be, and has no text.
func none(t *testing.T, what string, x api.Stmt) {
	t.Helper()
	if show.May(x) {
		t.Errorf("P18.1: May is true: %s", what)
	}
	if got := show.Text(x); got != "" {
		t.Errorf("P18.1: Text is %.300q: %s", got, what)
	}
}

func TestTextsOfTables(t *testing.T) {
	cols := func(l ...api.Col) api.Stmt { return table(api.Table{Name: "t", Cols: l}) }
	says(t, cols(api.Col{Name: "a", Kind: api.VInt}), "table t (a int)")
	says(t, cols(api.Col{Name: "a", Kind: api.VText}), "table t (a text)")
	says(t, cols(api.Col{Name: "a", Kind: api.VInt, Must: true}), "table t (a int must)")
	says(t, cols(api.Col{Name: "a", Kind: api.VInt, To: "u"}), "table t (a int to u)")
	says(t, cols(api.Col{Name: "a", Kind: api.VText, Must: true, To: "t"}), "table t (a text must to t)")
	says(t, cols(api.Col{Name: "a", Kind: api.VInt, To: "a"}, api.Col{Name: "a", Kind: api.VText, Must: true}, api.Col{Name: "_9", Kind: api.VText}),
		"table t (a int to a, a text must, _9 text)")

	x := api.Table{Name: "abcdefghijkl", Cols: []api.Col{{Name: "a", Kind: api.VInt}, {Name: "b", Kind: api.VText}}}
	x.Key = "a"
	says(t, table(x), "table abcdefghijkl (a int, b text) key a")
	x.Deps = []api.Dep{{Left: []string{"a"}, Right: "b"}}
	says(t, table(x), "table abcdefghijkl (a int, b text) key a fd a -> b")
	x.Key = ""
	says(t, table(x), "table abcdefghijkl (a int, b text) fd a -> b")
	x.Deps = append(x.Deps, api.Dep{Left: []string{"b", "a", "b"}, Right: "z"}, x.Deps[0])
	x.Key = "z"
	says(t, table(x), "table abcdefghijkl (a int, b text) key z fd a -> b fd b, a, b -> z fd a -> b")
}

func TestTextsOfLoads(t *testing.T) {
	says(t, load(insert(num(1))), "load insert t (1)")
	says(t, load(insert(api.Value{})), "load insert t (null)")
	says(t, load(insert(api.Value{}, num(0), text(""), text(" "), num(-5))), "load insert t (null, 0, '', ' ', -5)")
	says(t, load(insert(num(math.MaxInt64), num(math.MinInt64), text("a, b) -> (c."))),
		"load insert t (9223372036854775807, -9223372036854775808, 'a, b) -> (c.')")
	says(t, load(remove(0)), "load delete t 0")
	says(t, load(remove(math.MaxInt)), "load delete t 9223372036854775807")
	says(t, load(update(0, "a", num(-1))), "load update t 0 a = -1")
	says(t, load(update(math.MaxInt, "b", api.Value{})), "load update t 9223372036854775807 b = null")
	says(t, load(update(10, "c", text("~!"))), "load update t 10 c = '~!'")
	says(t, load(remove(3), insert(num(2)), remove(3), update(7, "a", text("x")), insert(num(2), num(2))),
		"load delete t 3, insert t (2), delete t 3, update t 7 a = 'x', insert t (2, 2)")
}

func TestTextsOfSummaries(t *testing.T) {
	x := api.Sum{Name: "s", From: "t", Keep: []api.Agg{agg(api.FnRows)}}
	says(t, summary(x), "summary s on t keep rows")
	x.By = []api.Path{way("a")}
	says(t, summary(x), "summary s on t by a keep rows")
	x.By = []api.Path{way("a", "b", "c", "d"), way("e"), way("a", "b")}
	says(t, summary(x), "summary s on t by a.b.c.d, e, a.b keep rows")
	x.Keep = []api.Agg{agg(api.FnSum, "a")}
	says(t, summary(x), "summary s on t by a.b.c.d, e, a.b keep sum(a)")
	x.By = nil
	x.Keep = []api.Agg{
		agg(api.FnDistinct, "a", "b"), agg(api.FnAvg, "b"), agg(api.FnMax, "c", "d", "e"),
		agg(api.FnMin, "d"), agg(api.FnSum, "e"), agg(api.FnCount, "f"), agg(api.FnRows), agg(api.FnRows),
	}
	says(t, summary(x), "summary s on t keep distinct(a.b), avg(b), max(c.d.e), min(d), sum(e), count(f), rows, rows")
}

func TestTextsOfDrops(t *testing.T) {
	for _, name := range []string{"s", "_", "abcdefghijkl", "drop_", "rows1", "z09"} {
		says(t, drop(name), "drop "+name)
	}
}

func TestTextsOfQuestions(t *testing.T) {
	says(t, asks(func(q *api.Query) {}), "from t show rows")
	says(t, asks(func(q *api.Query) { q.By = []api.Path{way("a")} }), "from t by a show rows")
	says(t, asks(func(q *api.Query) { q.By, q.Mode = []api.Path{way("a")}, api.ByRollup }), "from t by rollup a show rows")
	says(t, asks(func(q *api.Query) { q.By, q.Mode = []api.Path{way("a", "b"), way("c")}, api.ByCube }), "from t by cube a.b, c show rows")
	says(t, asks(func(q *api.Query) { q.Show = append(q.Show, agg(api.FnMin, "a", "b"), agg(api.FnRows)) }), "from t show rows, min(a.b), rows")
	says(t, asks(func(q *api.Query) { q.Limit = 1 }), "from t show rows limit 1")
	says(t, asks(func(q *api.Query) { q.Limit = math.MaxInt }), "from t show rows limit 9223372036854775807")
	says(t, asks(func(q *api.Query) { q.Using = "base" }), "from t show rows using base")
	says(t, asks(func(q *api.Query) { q.Using = "base_" }), "from t show rows using base_")
	says(t, asks(func(q *api.Query) { q.Order = []api.Ord{{Desc: true}, {Col: 10}, {Col: math.MaxInt, Desc: true}} }),
		"from t show rows order $0 desc, $10, $9223372036854775807 desc")
	says(t, query(api.Query{
		From: "sale", Where: []api.Cond{cond(api.OpGt, num(3), "n"), cond(api.OpNotNull, api.Value{}, "at", "id")},
		Mode: api.ByRollup, By: []api.Path{way("at", "land"), way("day")}, Show: []api.Agg{agg(api.FnSum, "n"), agg(api.FnRows)},
		Having: []api.Have{{Agg: 1, Op: api.OpGe, Val: num(2)}}, Order: []api.Ord{{Col: 2, Desc: true}, {}}, Limit: 5, Using: "by_day",
	}), "from sale where n > 3 and at.id is not null by rollup at.land, day show sum(n), rows having #1 >= 2 order $2 desc, $0 limit 5 using by_day")
}

func TestTextsOfTests(t *testing.T) {
	signs := []string{"=", "!=", "<", "<=", ">", ">="}
	values := []api.Value{num(-7), text("a b"), {}}
	texts := []string{"-7", "'a b'", "null"}
	for i, sign := range signs {
		op := i + api.OpEq
		for k, v := range values {
			says(t, asks(func(q *api.Query) { q.Where = []api.Cond{cond(op, v, "a", "b")} }),
				"from t where a.b "+sign+" "+texts[k]+" show rows")
			says(t, asks(func(q *api.Query) { q.Having = []api.Have{{Agg: k, Op: op, Val: v}} }),
				"from t show rows having #"+string(rune('0'+k))+" "+sign+" "+texts[k])
		}
	}
	says(t, asks(func(q *api.Query) { q.Where = []api.Cond{cond(api.OpNull, api.Value{}, "a")} }), "from t where a is null show rows")
	says(t, asks(func(q *api.Query) { q.Where = []api.Cond{cond(api.OpNotNull, api.Value{}, "a")} }), "from t where a is not null show rows")
	says(t, asks(func(q *api.Query) {
		q.Having = []api.Have{{Agg: math.MaxInt, Op: api.OpEq}, {Op: api.OpNe}, {Op: api.OpNe}}
	}),
		"from t show rows having #9223372036854775807 = null and #0 != null and #0 != null")
}

// Each list that must have something, without; each that need not, empty.
func TestEmptyLists(t *testing.T) {
	cols := []api.Col{{Name: "a", Kind: api.VInt}}
	for _, empty := range []bool{false, true} {
		var cols0 []api.Col
		var ops []api.Op
		var aggs []api.Agg
		var names []string
		var vals []api.Value
		var ways []api.Path
		var deps []api.Dep
		if empty {
			cols0, ops, aggs, names = []api.Col{}, []api.Op{}, []api.Agg{}, []string{}
			vals, ways, deps = []api.Value{}, []api.Path{}, []api.Dep{}
		}
		none(t, "no columns", table(api.Table{Name: "t", Cols: cols0}))
		none(t, "no Left", table(api.Table{Name: "t", Cols: cols, Deps: []api.Dep{{Left: names, Right: "a"}}}))
		none(t, "no ops", api.Stmt{Kind: api.SLoad, Ops: ops})
		none(t, "no values", load(insert(vals...)))
		none(t, "an update of none", load(update(0, "a", vals...)))
		none(t, "nothing kept", summary(api.Sum{Name: "s", From: "t", Keep: aggs}))
		none(t, "nothing shown", query(api.Query{From: "t", Show: aggs}))
		none(t, "a way without a name", summary(api.Sum{Name: "s", From: "t", By: []api.Path{way("a"), names}, Keep: []api.Agg{agg(api.FnRows)}}))
		none(t, "a sum without a way", asks(func(q *api.Query) { q.Show = []api.Agg{agg(api.FnSum, names...)} }))
		none(t, "a test without a way", asks(func(q *api.Query) { q.Where = []api.Cond{cond(api.OpNull, api.Value{}, names...)} }))
		none(t, "a mode without ways", asks(func(q *api.Query) { q.By, q.Mode = ways, api.ByCube }))
		says(t, table(api.Table{Name: "t", Cols: cols, Deps: deps}), "table t (a int)")
		says(t, load(api.Op{Do: api.DoDelete, Table: "t", Vals: vals}), "load delete t 0")
		says(t, summary(api.Sum{Name: "s", From: "t", By: ways, Keep: []api.Agg{agg(api.FnRows, names...)}}), "summary s on t keep rows")
	}
	says(t, api.Stmt{Kind: api.SDrop, Name: "s", Ops: []api.Op{}, Table: api.Table{Cols: []api.Col{}}, Query: api.Query{By: []api.Path{}}}, "drop s")
}

// long is a statement with one list of n, and its text.
type long struct {
	x    api.Stmt
	text string
}

func times(n int, s, between string) string {
	return strings.Join(slices.Repeat([]string{s}, n), between)
}

func longTables(n int) []long {
	one, a := []api.Col{{Name: "a", Kind: api.VInt}}, []string{"a"}
	return []long{
		{table(api.Table{Name: "t", Cols: slices.Repeat(one, n)}), "table t (" + times(n, "a int", ", ") + ")"},
		{table(api.Table{Name: "t", Cols: one, Deps: slices.Repeat([]api.Dep{{Left: a, Right: "b"}}, n)}),
			"table t (a int) " + times(n, "fd a -> b", " ")},
		{table(api.Table{Name: "t", Cols: one, Deps: []api.Dep{{Left: a, Right: "b"}, {Left: slices.Repeat(a, n), Right: "b"}}}),
			"table t (a int) fd a -> b fd " + times(n, "a", ", ") + " -> b"},
		{load(slices.Repeat([]api.Op{remove(1)}, n)...), "load " + times(n, "delete t 1", ", ")},
		{load(remove(1), insert(slices.Repeat([]api.Value{num(1)}, n)...)), "load delete t 1, insert t (" + times(n, "1", ", ") + ")"},
	}
}

func longSums(n int) []long {
	rows, a := []api.Agg{agg(api.FnRows)}, way("a")
	sum := func(by []api.Path, keep []api.Agg) api.Stmt {
		return summary(api.Sum{Name: "s", From: "t", By: by, Keep: keep})
	}
	return []long{
		{sum(slices.Repeat([]api.Path{a}, n), rows), "summary s on t by " + times(n, "a", ", ") + " keep rows"},
		{sum([]api.Path{a, slices.Repeat(a, n)}, rows), "summary s on t by a, " + times(n, "a", ".") + " keep rows"},
		{sum(nil, slices.Repeat(rows, n)), "summary s on t keep " + times(n, "rows", ", ")},
		{sum(nil, []api.Agg{rows[0], agg(api.FnMax, slices.Repeat(a, n)...)}), "summary s on t keep rows, max(" + times(n, "a", ".") + ")"},
	}
}

func longQuestions(n int) []long {
	a, test := way("a"), cond(api.OpEq, num(1), "a")
	return []long{
		{asks(func(q *api.Query) { q.Where = slices.Repeat([]api.Cond{test}, n) }), "from t where " + times(n, "a = 1", " and ") + " show rows"},
		{asks(func(q *api.Query) { q.Where = []api.Cond{test, cond(api.OpNull, api.Value{}, slices.Repeat(a, n)...)} }),
			"from t where a = 1 and " + times(n, "a", ".") + " is null show rows"},
		{asks(func(q *api.Query) { q.By = slices.Repeat([]api.Path{a}, n) }), "from t by " + times(n, "a", ", ") + " show rows"},
		{asks(func(q *api.Query) { q.By = []api.Path{a, slices.Repeat(a, n)} }), "from t by a, " + times(n, "a", ".") + " show rows"},
		{asks(func(q *api.Query) { q.Show = slices.Repeat(q.Show, n) }), "from t show " + times(n, "rows", ", ")},
		{asks(func(q *api.Query) { q.Show[0] = agg(api.FnCount, slices.Repeat(a, n)...) }), "from t show count(" + times(n, "a", ".") + ")"},
		{asks(func(q *api.Query) { q.Having = slices.Repeat([]api.Have{{Op: api.OpEq}}, n) }),
			"from t show rows having " + times(n, "#0 = null", " and ")},
		{asks(func(q *api.Query) { q.Order = make([]api.Ord, n) }), "from t show rows order " + times(n, "$0", ", ")},
	}
}

func TestListsOfAHundred(t *testing.T) {
	longs := func(n int) []long { return slices.Concat(longTables(n), longSums(n), longQuestions(n)) }
	for _, n := range []int{1, 2, 99, 100} {
		for _, l := range longs(n) {
			says(t, l.x, l.text)
		}
	}
	for _, n := range []int{101, 102, 200, 256, 356, 1 << 17} {
		for _, l := range longs(n) {
			none(t, l.text[:40], l.x)
		}
	}
}

func TestOtherKinds(t *testing.T) {
	none(t, "nothing", api.Stmt{})
	for _, kind := range []int{-1, 0, 6, 7, 100, 256 + api.SDrop, 1<<32 + api.SDrop, math.MaxInt, math.MinInt} {
		for _, x := range samples() {
			x.Kind = kind
			none(t, "another kind", x)
		}
		none(t, "another kind", api.Stmt{Kind: kind})
	}
}

// A statement with a part of another kind, whole or only begun, may not be.
func TestOtherParts(t *testing.T) {
	for kind, x := range samples() {
		for other, y := range samples() {
			mixed := []api.Stmt{x, x, x, x, x}
			mixed[0].Table, mixed[1].Ops, mixed[2].Sum, mixed[3].Name, mixed[4].Query = y.Table, y.Ops, y.Sum, y.Name, y.Query
			if kind != other {
				none(t, "another part", mixed[other-1])
			}
		}
	}
	none(t, "a part begun", api.Stmt{Kind: api.SDrop, Name: "s", Ops: []api.Op{{}}})
	none(t, "a part begun", api.Stmt{Kind: api.SDrop, Name: "s", Query: api.Query{Mode: 1}})
	none(t, "a part begun", api.Stmt{Kind: api.SDrop, Name: "s", Query: api.Query{Limit: -1}})
	none(t, "a part begun", api.Stmt{Kind: api.SDrop, Name: "s", Sum: api.Sum{By: []api.Path{nil}}})
	none(t, "a part begun", api.Stmt{Kind: api.SDrop, Name: "s", Table: api.Table{Cols: []api.Col{{}}}})
}

func TestOps(t *testing.T) {
	with := func(o api.Op, f func(o *api.Op)) api.Stmt {
		f(&o)
		return load(remove(0), o)
	}
	for _, do := range []int{-1, 0, 4, 257, math.MaxInt, math.MinInt} {
		for _, o := range []api.Op{insert(num(1)), remove(1), update(1, "a", num(1))} {
			none(t, "another Do", with(o, func(o *api.Op) { o.Do = do }))
		}
	}
	for _, id := range []int{-1, math.MinInt} {
		none(t, "an Id below 0", load(remove(id)))
		none(t, "an Id below 0", load(update(id, "a", num(1))))
		none(t, "an Id below 0", with(insert(num(1)), func(o *api.Op) { o.Id = id }))
	}
	none(t, "an insert with an Id", with(insert(num(1)), func(o *api.Op) { o.Id = 1 }))
	none(t, "an insert with a Col", with(insert(num(1)), func(o *api.Op) { o.Col = "a" }))
	none(t, "a delete with a Col", with(remove(1), func(o *api.Op) { o.Col = "a" }))
	none(t, "a delete with a value", with(remove(1), func(o *api.Op) { o.Vals = []api.Value{{}} }))
	none(t, "an update of two", load(update(1, "a", num(1), num(1))))
	none(t, "an update of no column", load(update(1, "", num(1))))
	none(t, "an update of a key word", load(update(1, "key", num(1))))
	none(t, "an update of no value", load(update(1, "a", text("it's"))))
	none(t, "no table", with(remove(1), func(o *api.Op) { o.Table = "" }))
	none(t, "no value", load(insert(num(1), api.Value{Kind: api.VInt, S: "a"}, num(1))))
	none(t, "no value", load(insert(num(1), api.Value{Kind: 3})))
	none(t, "no value", load(insert(text("abcdefghijklm"))))
}

func TestTestsOfNothing(t *testing.T) {
	for _, op := range []int{api.OpNull, api.OpNotNull} {
		for _, v := range []api.Value{num(0), num(1), text(""), text("a"), {N: 1}, {S: "a"}, {Kind: 3}} {
			none(t, "is null of a value", asks(func(q *api.Query) { q.Where = []api.Cond{cond(op, v, "a")} }))
		}
		none(t, "a group is not null", asks(func(q *api.Query) { q.Having = []api.Have{{Op: op}} }))
	}
	for _, op := range []int{-1, 0, 9, 257, math.MinInt, math.MaxInt} {
		none(t, "another Op", asks(func(q *api.Query) { q.Where = []api.Cond{cond(op, api.Value{}, "a")} }))
		none(t, "another Op", asks(func(q *api.Query) { q.Having = []api.Have{{Op: op}} }))
	}
}

// Aggs may be in a summary just if they may be in a question.
func TestAggs(t *testing.T) {
	for fn := -2; fn < 10; fn++ {
		for _, p := range []api.Path{nil, {}, {"a"}, {"a", "b"}, {""}, {"a", ""}, {"a", "rows"}, {"A"}} {
			l := []api.Agg{agg(api.FnRows), {Fn: fn, Path: p}}
			proper := len(p) > 0 && p[0] == "a" && p[len(p)-1] != "" && p[len(p)-1] != "rows"
			want := fn == api.FnRows && len(p) == 0 || api.FnCount <= fn && fn <= api.FnDistinct && proper
			if show.May(asks(func(q *api.Query) { q.Show = l })) != want || show.May(summary(api.Sum{Name: "s", From: "t", Keep: l})) != want {
				t.Errorf("P18.1: Fn %d with %q may be: not %v", fn, p, want)
			}
		}
	}
	none(t, "another Fn", asks(func(q *api.Query) { q.Show = []api.Agg{agg(math.MinInt, "a")} }))
	none(t, "another Fn", asks(func(q *api.Query) { q.Show = []api.Agg{agg(math.MaxInt, "a")} }))
}

func TestNumbersBelowZero(t *testing.T) {
	for _, n := range []int{-1, math.MinInt} {
		none(t, "an Agg below 0", asks(func(q *api.Query) { q.Having = []api.Have{{Agg: n, Op: api.OpEq}} }))
		none(t, "a Col below 0", asks(func(q *api.Query) { q.Order = []api.Ord{{}, {Col: n}} }))
		none(t, "a Limit below 0", asks(func(q *api.Query) { q.Limit = n }))
		none(t, "a Mode below 0", asks(func(q *api.Query) { q.By, q.Mode = []api.Path{way("a")}, n }))
	}
	none(t, "a Mode of none", asks(func(q *api.Query) { q.By, q.Mode = []api.Path{way("a")}, 3 }))
	none(t, "a Mode without By", asks(func(q *api.Query) { q.Mode = api.ByRollup }))
	none(t, "a Mode without By", asks(func(q *api.Query) { q.Mode = api.ByCube }))
}

func TestEqByHand(t *testing.T) {
	eq := func(a, b api.Stmt, want bool) {
		t.Helper()
		if show.Eq(a, b) != want || show.Eq(b, a) != want || !show.Eq(a, a) || !show.Eq(b, b) {
			t.Errorf("P18.1: Eq is not %v of %v, %v", want, a, b)
		}
	}
	eq(api.Stmt{}, api.Stmt{}, true)
	eq(api.Stmt{}, api.Stmt{Ops: []api.Op{}}, true)
	eq(api.Stmt{}, api.Stmt{Ops: []api.Op{{}}}, false)
	eq(api.Stmt{Ops: []api.Op{{Vals: []api.Value{}}}}, api.Stmt{Ops: []api.Op{{}}}, true)
	eq(api.Stmt{Kind: -1, Name: "no name"}, api.Stmt{Kind: -1, Name: "no name"}, true)
	eq(drop("s"), drop("t"), false)
	eq(drop("s"), api.Stmt{Kind: api.SQuery, Name: "s"}, false)
	eq(table(api.Table{Deps: []api.Dep{{Left: []string{"a", "b"}}}}), table(api.Table{Deps: []api.Dep{{Left: []string{"b", "a"}}}}), false)
	eq(summary(api.Sum{By: []api.Path{way("a.b")}}), summary(api.Sum{By: []api.Path{way("a", "b")}}), false)
	eq(summary(api.Sum{By: []api.Path{way("a"), way("b")}}), summary(api.Sum{By: []api.Path{way("a", "b")}}), false)
	eq(summary(api.Sum{By: []api.Path{nil}}), summary(api.Sum{By: []api.Path{{}}}), true)
	eq(summary(api.Sum{By: []api.Path{nil}}), summary(api.Sum{By: []api.Path{way("")}}), false)
	eq(asks(func(q *api.Query) { q.Show[0].Path = way() }), asks(func(q *api.Query) { q.Show[0].Path = nil }), true)
	eq(load(insert(text("1"))), load(insert(num(1))), false)
	eq(load(insert(api.Value{})), load(insert(api.Value{S: "a"})), false)
}

// What is handed in stays as it is, spare room too; writing into it changes no text.
func TestArgumentsStay(t *testing.T) {
	for _, x := range samples() {
		want := copied(x)
		text := show.Text(x)
		before := text + "."
		show.May(x)
		show.Eq(x, want)
		if !reflect.DeepEqual(x, want) {
			t.Errorf("P0.3: %q was changed", text)
		}
		visit(reflect.ValueOf(&x).Elem(), "", func(where string, v reflect.Value) {
			if v.Kind() == reflect.String {
				v.SetString("other")
			}
		})
		if text+"." != before || show.Text(want) != text {
			t.Errorf("P0.3: %q has another text now: %q", text, show.Text(want))
		}
	}
	spare := []api.Value{num(1), num(2), num(3)}
	says(t, load(insert(spare[:1]...)), "load insert t (1)")
	if !slices.Equal(spare, []api.Value{num(1), num(2), num(3)}) {
		t.Errorf("P0.3: spare room is %v", spare)
	}
}

func TestHugeArguments(t *testing.T) {
	s := strings.Repeat("a", 1<<20)
	none(t, "a huge name", drop(s))
	none(t, "a huge text", load(insert(text(s))))
	none(t, "a huge name", asks(func(q *api.Query) { q.Using = s }))
	many := slices.Repeat([]string{s}, 1000)
	x := asks(func(q *api.Query) { q.By = slices.Repeat([]api.Path{many}, 1000) })
	none(t, "a huge list", x)
	if !show.Eq(x, x) {
		t.Error("P18.1: a huge statement is not the same")
	}
	all := make([]byte, 256)
	for i := range all {
		all[i] = byte(i)
	}
	none(t, "any bytes", drop(string(all)))
	none(t, "any bytes", load(insert(text(string(all[128:140])))))
}
