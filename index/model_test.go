package index_test

import (
	"maps"
	"slices"
	"testing"

	"asterism/api"
	"asterism/bitmap"
	"asterism/data"
	"asterism/index"
	"asterism/path"
	"asterism/val"
)

func null() api.Value { return api.Value{} }

func num(n int64) api.Value { return api.Value{Kind: api.VInt, N: n} }

func text(s string) api.Value { return api.Value{Kind: api.VText, S: s} }

func next(x *uint32, below int) int {
	*x = *x*1664525 + 1013904223
	return int(*x>>8) % below
}

// star has keys of both kinds, ways of four names, two ways to one table (day)
// and a table without a Key.
func star() []api.Table {
	return []api.Table{
		{Name: "zone", Key: "name", Cols: []api.Col{
			{Name: "size", Kind: api.VInt}, {Name: "name", Kind: api.VText},
		}},
		{Name: "region", Key: "id", Cols: []api.Col{
			{Name: "zone", Kind: api.VText, To: "zone"}, {Name: "id", Kind: api.VInt},
		}},
		{Name: "store", Key: "id", Cols: []api.Col{
			{Name: "id", Kind: api.VInt}, {Name: "region", Kind: api.VInt, To: "region"},
		}},
		{Name: "day", Key: "no", Cols: []api.Col{
			{Name: "no", Kind: api.VInt}, {Name: "name", Kind: api.VText},
		}},
		{Name: "sale", Cols: []api.Col{
			{Name: "store", Kind: api.VInt, To: "store"}, {Name: "day", Kind: api.VInt, To: "day"},
			{Name: "due", Kind: api.VInt, To: "day"}, {Name: "what", Kind: api.VText},
			{Name: "n", Kind: api.VInt},
		}},
	}
}

// list is a table as a list of rows.
type list struct {
	form api.Table
	rows map[int][]api.Value
	next int
}

func (l *list) col(name string) int {
	return slices.IndexFunc(l.form.Cols, func(c api.Col) bool { return c.Name == name })
}

// pair is a DB and the lists of rows that it must be like.
type pair struct {
	d      *data.DB
	tables []*list
}

func made(t *testing.T, tables ...api.Table) pair {
	t.Helper()
	x := pair{d: data.New()}
	for _, form := range tables {
		if err := x.d.Add(form); err != api.OK {
			t.Fatalf("Add(%v): %v", form, err)
		}
		x.tables = append(x.tables, &list{form: form, rows: map[int][]api.Value{}})
	}
	return x
}

func (x pair) copied() pair {
	own := pair{d: x.d.Copy()}
	for _, l := range x.tables {
		rows := map[int][]api.Value{}
		for id, vals := range l.rows {
			rows[id] = slices.Clone(vals)
		}
		own.tables = append(own.tables, &list{form: l.form, rows: rows, next: l.next})
	}
	return own
}

func (x pair) table(name string) *list {
	for _, l := range x.tables {
		if l.form.Name == name {
			return l
		}
	}
	return nil
}

func (x pair) insert(t *testing.T, name string, rows ...[]api.Value) pair {
	t.Helper()
	l := x.table(name)
	for _, vals := range rows {
		if id, err := x.d.Table(name).Insert(vals); id != l.next || err != api.OK {
			t.Fatalf("Insert(%v) into %s: %v, %v", vals, name, id, err)
		}
		l.rows[l.next] = slices.Clone(vals)
		l.next++
	}
	return x
}

func (x pair) remove(t *testing.T, name string, ids ...int) pair {
	t.Helper()
	for _, id := range ids {
		if !x.d.Table(name).Delete(id) {
			t.Fatalf("Delete(%d) of %s", id, name)
		}
		delete(x.table(name).rows, id)
	}
	return x
}

func (x pair) set(t *testing.T, name string, id int, col string, v api.Value) pair {
	t.Helper()
	if err := x.d.Table(name).Set(id, col, v); err != api.OK {
		t.Fatalf("Set(%d, %s, %v) of %s: %v", id, col, v, name, err)
	}
	l := x.table(name)
	l.rows[id][l.col(col)] = v
	return x
}

// value answers what stands at p's end for a row that is there.
func (x pair) value(name string, id int, p api.Path) api.Value {
	l := x.table(name)
	v := l.rows[id][l.col(p[0])]
	if len(p) == 1 {
		return v
	}
	to := x.table(l.form.Cols[l.col(p[0])].To)
	for _, row := range slices.Sorted(maps.Keys(to.rows)) {
		if key := to.rows[row][to.col(to.form.Key)]; v.Kind != api.VNull && key == v {
			return x.value(to.form.Name, row, p[1:])
		}
	}
	return null()
}

// have is what rows have at a way's end.
type have map[int]api.Value

func (x pair) have(name string, p api.Path) have {
	h := have{}
	for id := range x.table(name).rows {
		h[id] = x.value(name, id, p)
	}
	return h
}

func (h have) values() []api.Value {
	l := slices.SortedFunc(maps.Values(h), val.Compare)
	return slices.Compact(l)
}

func (h have) rows(yes func(v api.Value) bool) bitmap.Map {
	var l []int
	for id, v := range h {
		if yes(v) {
			l = append(l, id)
		}
	}
	return bitmap.Of(l...)
}

// others are values that rows may have or not, and such as may not be.
func others() []api.Value {
	return []api.Value{
		null(), num(0), num(3), num(-1 << 63), num(1<<63 - 1), text(""), text("b"), text("tea"),
		{Kind: api.VNull, N: 1}, {Kind: api.VNull, S: "b"}, {Kind: api.VInt, N: 3, S: "b"},
		{Kind: api.VText, N: 1, S: "b"}, text("so long a text as may not be"), text("'"),
		{Kind: -1}, {Kind: 3, N: 3, S: "b"},
	}
}

// ops are all Ops, and numbers that are none.
func ops() []int {
	return []int{-1 << 63, -1, 0, 1, 2, 3, 4, 5, 6, 7, 8, 9, 256 + 1, 1<<63 - 1}
}

// right asks all that may be asked of an index of which rows have h.
func right(t *testing.T, x *index.Index, h have, what ...any) {
	t.Helper()
	l := x.Values()
	if !slices.Equal(l, h.values()) {
		t.Fatalf("P16.1: %v: Values: %v, not %v", what, l, h.values())
	}
	for _, v := range append(l, others()...) {
		got, want := x.Get(v), h.rows(func(own api.Value) bool { return own == v })
		if !bitmap.Eq(got, want) {
			t.Fatalf("P16.1: %v: Get(%v): %v, not %v", what, v, got.Runs(), want.Runs())
		}
		for _, op := range ops() {
			got, want := x.Test(op, v), h.rows(func(own api.Value) bool { return val.Test(op, own, v) })
			if !bitmap.Eq(got, want) {
				t.Fatalf("P16.1: %v: Test(%d, %v): %v, not %v", what, op, v, got.Runs(), want.Runs())
			}
		}
	}
}

// way is a way of a pair's tables.
type way struct {
	table string
	p     api.Path
}

// ways are all of them; there are as many as the chapter of path says.
func (x pair) ways() []way {
	var l []way
	for _, table := range x.d.Schema().Names() {
		for _, p := range path.All(x.d.Schema(), table) {
			l = append(l, way{table, p})
		}
	}
	return l
}

func (x pair) index(t *testing.T, w way) *index.Index {
	t.Helper()
	own, err := index.New(x.d, w.table, w.p)
	if own == nil || err != api.OK {
		t.Fatalf("P16.1: New(%v): %v, %v", w, own == nil, err)
	}
	return own
}

// indexes are indexes of all ways, each of which is right.
func (x pair) indexes(t *testing.T) []*index.Index {
	t.Helper()
	var l []*index.Index
	for _, w := range x.ways() {
		own := x.index(t, w)
		right(t, own, x.have(w.table, w.p), w)
		l = append(l, own)
	}
	return l
}

// right asks that the indexes of all ways are as x is.
func (x pair) right(t *testing.T, l []*index.Index, what string) {
	t.Helper()
	for k, w := range x.ways() {
		right(t, l[k], x.have(w.table, w.p), what, w)
	}
}

func update(l []*index.Index, d *data.DB) {
	for _, own := range l {
		own.Update(d)
	}
}
