package batch_test

import (
	"fmt"
	"math"
	"slices"
	"strings"
	"testing"

	"asterism/api"
	"asterism/batch"
	"asterism/data"
	"asterism/val"
)

func null() api.Value { return api.Value{} }

func num(n int64) api.Value { return api.Value{Kind: api.VInt, N: n} }

func text(s string) api.Value { return api.Value{Kind: api.VText, S: s} }

func row(vals ...api.Value) []api.Value { return vals }

// star has more tables than one, with all that must hold of rows: none of it
// is a batch's business.
func star() []api.Table {
	return []api.Table{
		{Name: "zone", Key: "name", Cols: []api.Col{
			{Name: "name", Kind: api.VText}, {Name: "size", Kind: api.VInt, Must: true},
		}},
		{Name: "store", Key: "id", Cols: []api.Col{
			{Name: "id", Kind: api.VInt}, {Name: "zone", Kind: api.VText, To: "zone"}, {Name: "town", Kind: api.VText},
		}, Deps: []api.Dep{{Left: []string{"town"}, Right: "zone"}}},
		{Name: "one", Cols: []api.Col{{Name: "n", Kind: api.VInt}}},
	}
}

// list is a table as a list of rows.
type list struct {
	form api.Table
	rows map[int][]api.Value
	next int
}

func (l *list) takes(k int, v api.Value) bool {
	return v.Kind == api.VNull && val.May(v) || v.Kind == l.form.Cols[k].Kind && val.May(v)
}

func (l *list) insert(vals []api.Value) (int, api.Errno) {
	if l.next == 65536 {
		return 0, api.ErrLimit
	}
	if len(vals) != len(l.form.Cols) {
		return 0, api.ErrForm
	}
	for k, v := range vals {
		if !l.takes(k, v) {
			return 0, api.ErrType
		}
	}
	l.rows[l.next] = slices.Clone(vals)
	l.next++
	return l.next - 1, api.OK
}

func (l *list) remove(id int) api.Errno {
	if _, ok := l.rows[id]; !ok {
		return api.ErrNone
	}
	delete(l.rows, id)
	return api.OK
}

func (l *list) set(id int, col string, v api.Value) api.Errno {
	vals, ok := l.rows[id]
	if !ok {
		return api.ErrNone
	}
	k := slices.IndexFunc(l.form.Cols, func(c api.Col) bool { return c.Name == col })
	if k < 0 {
		return api.ErrName
	}
	if !l.takes(k, v) {
		return api.ErrType
	}
	vals[k] = v
	return api.OK
}

// model is tables as lists of rows: what the chapter says of them, said
// plainly.
type model []*list

func (m model) table(name string) *list {
	for _, l := range m {
		if l.form.Name == name {
			return l
		}
	}
	return nil
}

func (m model) do(op api.Op) (int, api.Errno) {
	l := m.table(op.Table)
	switch {
	case op.Do != 1 && op.Do != 2 && op.Do != 3:
		return 0, api.ErrForm
	case op.Do == 3 && len(op.Vals) != 1:
		return 0, api.ErrForm
	case l == nil:
		return 0, api.ErrName
	case op.Do == 1:
		return l.insert(op.Vals)
	case op.Do == 2:
		return 0, l.remove(op.Id)
	default:
		return 0, l.set(op.Id, op.Col, op.Vals[0])
	}
}

func (m model) apply(ops []api.Op) ([]int, api.Fault) {
	if len(ops) < 1 || len(ops) > 40 {
		return nil, api.Fault{Err: api.ErrLimit}
	}
	var ids []int
	for k, op := range ops {
		id, err := m.do(op)
		if err != api.OK {
			return nil, api.Fault{Err: err, At: k, Table: op.Table}
		}
		if op.Do == 1 {
			ids = append(ids, id)
		}
	}
	return ids, api.Fault{}
}

// pair is a DB and what it must be like.
type pair struct {
	d *data.DB
	m model
}

func made(t *testing.T, tables []api.Table) pair {
	t.Helper()
	x := pair{d: data.New()}
	for _, form := range tables {
		if err := x.d.Add(form); err != api.OK {
			t.Fatal(err)
		}
		x.m = append(x.m, &list{form: form, rows: map[int][]api.Value{}})
	}
	return x
}

// filled is a star with rows, one of which is gone.
func filled(t *testing.T) pair {
	t.Helper()
	x := made(t, star())
	x.apply(t, []api.Op{
		insert("zone", text("z"), num(7)),
		insert("zone", text("y"), num(8)),
		insert("store", num(1), text("z"), text("a")),
		insert("store", num(2), text("y"), text("b")),
		insert("store", num(3), null(), null()),
		remove("store", 1),
	}, 5)
	return x
}

// apply holds an Apply that may be against the model's, and what stands in all
// tables behind it; n rows are to be inserted.
func (x pair) apply(t *testing.T, ops []api.Op, n int) []int {
	t.Helper()
	ids, f := x.both(t, ops)
	if f != (api.Fault{}) || len(ids) != n {
		t.Fatalf("P13.1: Apply(%.500v): %v, %v, not %d rows", ops, ids, f, n)
	}
	return ids
}

// fails holds an Apply that may not be against the model's, and what stands in
// all tables behind it.
func (x pair) fails(t *testing.T, want api.Fault, ops ...api.Op) {
	t.Helper()
	ids, f := x.both(t, ops)
	if f != want || ids != nil {
		t.Fatalf("P13.1: Apply(%.500v): %v, %.500v, not nil, %.500v", ops, ids, f, want)
	}
}

func (x pair) both(t *testing.T, ops []api.Op) ([]int, api.Fault) {
	t.Helper()
	want, fault := x.m.apply(ops)
	ids, f := batch.Apply(x.d, ops)
	if f != fault || !slices.Equal(ids, want) {
		t.Fatalf("P13.1: Apply(%.500v): %v, %.500v, not %v, %.500v", ops, ids, f, want, fault)
	}
	if f.Err != api.OK && ids != nil {
		t.Fatalf("P13.1: Apply(%.500v): %v beside %.500v", ops, ids, f)
	}
	x.same(t)
	return ids, f
}

// same holds all rows against the model's.
func (x pair) same(t *testing.T) {
	t.Helper()
	var names []string
	for _, l := range x.m {
		names = append(names, l.form.Name)
		rows := x.d.Table(l.form.Name)
		if rows.Next() != l.next || rows.Live().Count() != len(l.rows) {
			t.Fatalf("P13.1: %s: Next %d, %d rows, not %d, %d", l.form.Name, rows.Next(), rows.Live().Count(), l.next, len(l.rows))
		}
		for id, vals := range l.rows {
			if got, ok := rows.Row(id); !ok || !slices.Equal(got, vals) {
				t.Fatalf("P13.1: %s, row %d: %v, %v, not %v", l.form.Name, id, got, ok, vals)
			}
		}
	}
	if got := x.d.Schema().Names(); !slices.Equal(got, names) {
		t.Fatalf("P13.1: the tables are %v, not %v", got, names)
	}
}

func insert(name string, vals ...api.Value) api.Op {
	return api.Op{Do: api.DoInsert, Table: name, Vals: vals}
}

func remove(name string, id int) api.Op {
	return api.Op{Do: api.DoDelete, Table: name, Id: id}
}

func update(name string, id int, col string, v api.Value) api.Op {
	return api.Op{Do: api.DoUpdate, Table: name, Id: id, Col: col, Vals: row(v)}
}

func fault(err api.Errno, at int, name string) api.Fault {
	return api.Fault{Err: err, At: at, Table: name}
}

func TestOneOp(t *testing.T) {
	x := filled(t)
	if ids := x.apply(t, []api.Op{insert("store", num(4), text("z"), null())}, 1); ids[0] != 3 {
		t.Errorf("P13.1: the row inserted is %d", ids[0])
	}
	x.apply(t, []api.Op{remove("store", 0)}, 0)
	x.apply(t, []api.Op{update("store", 2, "town", text("t"))}, 0)
	if v, ok := x.d.Table("store").Get(2, "town"); v != text("t") || !ok {
		t.Errorf("P13.1: the town is %v, %v", v, ok)
	}
	if _, ok := x.d.Table("store").Row(0); ok {
		t.Error("P13.1: the row is still there")
	}
	x.apply(t, []api.Op{update("store", 2, "town", null())}, 0)
	x.apply(t, []api.Op{insert("one", null())}, 1)
}

// The numbers are those of the inserted rows alone, in the order of the ops.
func TestNumbersInOrder(t *testing.T) {
	x := filled(t)
	ids := x.apply(t, []api.Op{
		insert("store", num(9), null(), null()),
		remove("store", 0),
		insert("zone", text("a"), num(1)),
		insert("one", num(5)),
		update("one", 0, "n", num(6)),
		insert("store", num(8), null(), null()),
		remove("zone", 2),
		insert("zone", text("b"), num(1)),
		insert("one", num(5)),
	}, 6)
	if !slices.Equal(ids, []int{3, 2, 0, 4, 3, 1}) {
		t.Errorf("P13.1: rows inserted: %v", ids)
	}
}

// An op sees what those ahead of it did.
func TestOpByOp(t *testing.T) {
	x := filled(t)
	x.apply(t, []api.Op{
		insert("one", num(1)),
		update("one", 0, "n", num(2)),
		update("one", 0, "n", num(3)),
		remove("one", 0),
		insert("one", num(4)),
	}, 2)
	if v, ok := x.d.Table("one").Get(1, "n"); v != num(4) || !ok {
		t.Errorf("P13.1: row 1 of one: %v, %v", v, ok)
	}
	x.fails(t, fault(api.ErrNone, 1, "one"), remove("one", 1), remove("one", 1))
	x.fails(t, fault(api.ErrNone, 2, "one"), insert("one", num(1)), remove("one", 2), update("one", 2, "n", num(1)))
	x.fails(t, fault(api.ErrNone, 0, "one"), update("one", 3, "n", num(1)), insert("one", num(1)))
}

// What must hold of rows is no batch's business.
func TestNothingElseIsAsked(t *testing.T) {
	x := filled(t)
	x.apply(t, []api.Op{
		insert("zone", null(), null()),
		insert("zone", text("z"), num(1)),
		insert("zone", text("z"), num(1)),
		insert("store", num(1), text("none"), text("a")),
		insert("store", num(1), text("y"), text("a")),
		remove("zone", 0),
		update("zone", 1, "size", null()),
		update("store", 0, "id", null()),
	}, 5)
	var ops []api.Op
	for i := range 40 {
		ops = append(ops, insert("store", num(int64(i)), null(), text(strings.Repeat("x", i/4)+string(rune('a'+i%4)))))
	}
	x.apply(t, ops, 40)
	x.apply(t, ops, 40) // 80 rows: more than check lets be
}

// Each error, where it stands alone.
func TestEachError(t *testing.T) {
	good := insert("one", num(1))
	for _, c := range []struct {
		op   api.Op
		want api.Errno
	}{
		{api.Op{Table: "one", Vals: row(num(1))}, api.ErrForm},
		{api.Op{Do: 4, Table: "one", Vals: row(num(1))}, api.ErrForm},
		{api.Op{Do: -1, Table: "one", Vals: row(num(1))}, api.ErrForm},
		{api.Op{Do: math.MaxInt, Table: "one", Vals: row(num(1))}, api.ErrForm},
		{api.Op{Do: math.MinInt, Table: "one", Vals: row(num(1))}, api.ErrForm},
		{api.Op{Do: 1<<32 + 1, Table: "one", Vals: row(num(1))}, api.ErrForm},
		{api.Op{Do: api.DoUpdate, Table: "zone", Col: "size"}, api.ErrForm},
		{api.Op{Do: api.DoUpdate, Table: "zone", Col: "size", Vals: row()}, api.ErrForm},
		{api.Op{Do: api.DoUpdate, Table: "zone", Col: "size", Vals: row(num(1), num(1))}, api.ErrForm},
		{api.Op{Do: api.DoUpdate, Table: "zone", Col: "size", Vals: make([]api.Value, 1000)}, api.ErrForm},
		{insert("", num(1)), api.ErrName},
		{insert("none", num(1)), api.ErrName},
		{insert("One", num(1)), api.ErrName},
		{insert("one\x00", num(1)), api.ErrName},
		{insert(strings.Repeat("one", 1<<18), num(1)), api.ErrName},
		{remove("none", 0), api.ErrName},
		{update("none", 0, "n", num(1)), api.ErrName},
		{insert("one"), api.ErrForm},
		{insert("one", num(1), num(1)), api.ErrForm},
		{insert("zone", text("a")), api.ErrForm},
		{insert("zone", make([]api.Value, 1000)...), api.ErrForm},
		{insert("one", text("a")), api.ErrType},
		{insert("zone", text("a"), text("a")), api.ErrType},
		{insert("zone", text("a'"), num(1)), api.ErrType},
		{insert("zone", text(strings.Repeat("a", 13)), num(1)), api.ErrType},
		{insert("one", api.Value{Kind: 3}), api.ErrType},
		{remove("store", 1), api.ErrNone},
		{remove("store", 3), api.ErrNone},
		{remove("store", -1), api.ErrNone},
		{remove("store", math.MinInt), api.ErrNone},
		{remove("store", math.MaxInt), api.ErrNone},
		{remove("store", 1<<32), api.ErrNone},
		{update("store", 1, "id", num(1)), api.ErrNone},
		{update("store", -1, "id", num(1)), api.ErrNone},
		{update("store", 0, "none", num(1)), api.ErrName},
		{update("store", 0, "", num(1)), api.ErrName},
		{update("store", 0, "id", text("a")), api.ErrType},
		{update("store", 0, "town", num(1)), api.ErrType},
		{update("store", 0, "town", text("\x00")), api.ErrType},
	} {
		x := filled(t)
		x.fails(t, fault(c.want, 0, c.op.Table), c.op)
		x.fails(t, fault(c.want, 1, c.op.Table), good, c.op, good)
		ops := append(slices.Repeat([]api.Op{good}, 39), c.op)
		x.fails(t, fault(c.want, 39, c.op.Table), ops...)
		if next := x.d.Table("one").Next(); next != 40 {
			t.Errorf("P13.1: %.100v: of what is ahead of it %d were done", c.op, next)
		}
	}
}

// Where more errors than one apply to an op, the chapter's first counts.
func TestErrorsInOrder(t *testing.T) {
	x := filled(t)
	for _, c := range []struct {
		op   api.Op
		want api.Errno
	}{
		{api.Op{Do: 9, Table: "none", Id: 9, Col: "none", Vals: row(text("'"))}, api.ErrForm},
		{api.Op{Do: 3, Table: "none", Id: 9, Col: "none", Vals: row(text("'"), null())}, api.ErrForm},
		{api.Op{Do: 3, Table: "zone", Id: 9, Col: "none"}, api.ErrForm},
		{api.Op{Do: 1, Table: "none", Id: 9, Col: "none"}, api.ErrName},
		{api.Op{Do: 2, Table: "none", Id: 9, Col: "none", Vals: row(null())}, api.ErrName},
		{api.Op{Do: 3, Table: "none", Id: 9, Col: "none", Vals: row(text("'"))}, api.ErrName},
		{api.Op{Do: 1, Table: "zone", Vals: row(text("'"))}, api.ErrForm},
		{api.Op{Do: 1, Table: "zone", Vals: row(text("'"), text("'"), text("'"))}, api.ErrForm},
		{api.Op{Do: 3, Table: "zone", Id: 9, Col: "none", Vals: row(text("'"))}, api.ErrNone},
		{api.Op{Do: 3, Table: "zone", Id: 9, Col: "size", Vals: row(text("'"))}, api.ErrNone},
		{api.Op{Do: 3, Table: "zone", Id: 0, Col: "none", Vals: row(text("'"))}, api.ErrName},
	} {
		x.fails(t, fault(c.want, 0, c.op.Table), c.op)
	}
}

// The first op that may not be counts, whatever its error: those behind it are
// neither done nor asked.
func TestFirstOpCounts(t *testing.T) {
	good := insert("one", num(1))
	bad := []api.Op{
		{Do: 9, Table: "zone"}, {Do: api.DoUpdate, Table: "store"}, insert("none"), insert("zone"),
		insert("zone", num(1), num(1)), remove("store", 9), update("store", 9, "id", null()),
		update("store", 0, "none", null()), update("store", 0, "id", text("a")),
	}
	for i, first := range bad {
		for k, second := range bad {
			x := filled(t)
			_, err := x.m.do(first)
			x.fails(t, fault(err, 2, first.Table), good, remove("zone", 0), first, good, second, good)
			if next := x.d.Table("one").Next(); next != 1 {
				t.Errorf("P13.1: %d, %d: %d rows", i, k, next)
			}
			x.fails(t, fault(err, 0, first.Table), first, second)
		}
	}
}

// The fields that are not an op's own are not asked.
func TestOtherFieldsAreNotAsked(t *testing.T) {
	x := filled(t)
	ids := x.apply(t, []api.Op{
		{Do: api.DoInsert, Table: "one", Id: -5, Col: "none", Vals: row(num(1))},
		{Do: api.DoInsert, Table: "one", Id: math.MaxInt, Col: "n", Vals: row(num(2))},
		{Do: api.DoDelete, Table: "one", Id: 0, Col: "none", Vals: row(text("'"), api.Value{Kind: 7}, null())},
		{Do: api.DoDelete, Table: "one", Id: 1, Col: "n", Vals: row(num(1))},
	}, 2)
	if !slices.Equal(ids, []int{0, 1}) {
		t.Errorf("P13.1: rows inserted: %v", ids)
	}
}

func TestHowManyOps(t *testing.T) {
	good := insert("one", num(1))
	for n := range 83 {
		for _, first := range []api.Op{good, {}, {Do: 9, Table: "none"}, remove("zone", 1)} {
			x := filled(t)
			ops := append([]api.Op{first}, slices.Repeat([]api.Op{good}, n)...)[:n]
			ids, f := x.both(t, ops)
			if n >= 1 && n <= 40 {
				continue
			}
			if ids != nil || f != fault(api.ErrLimit, 0, "") || x.d.Table("one").Next() != 0 {
				t.Errorf("P13.1: %d ops: %v, %v", n, ids, f)
			}
		}
	}
	x := filled(t)
	x.fails(t, fault(api.ErrLimit, 0, ""), slices.Repeat([]api.Op{good}, 1<<16)...)
	for _, none := range [][]api.Op{nil, {}, []api.Op{good}[:0]} {
		x.fails(t, fault(api.ErrLimit, 0, ""), none...)
	}
	x.apply(t, slices.Repeat([]api.Op{good}, 40), 40)
}

// A table that has given all its numbers refuses a row, whatever its values.
func TestNoNumberLeft(t *testing.T) {
	d := data.New()
	d.Add(star()[2])
	d.Add(star()[0])
	for d.Table("one").Next() < 65534 {
		if _, err := d.Table("one").Insert(row(num(1))); err != api.OK {
			t.Fatal(err)
		}
	}
	good, other := insert("one", num(1)), insert("zone", text("a"), num(1))
	ids, f := batch.Apply(d, []api.Op{good, other, good})
	if !slices.Equal(ids, []int{65534, 0, 65535}) || f.Err != api.OK {
		t.Fatalf("P13.1: the last two rows: %v, %v", ids, f)
	}
	for _, op := range []api.Op{good, insert("one"), insert("one", text("'"))} {
		ids, f = batch.Apply(d, []api.Op{other, remove("one", d.Table("one").Live().Count()-1), op, other})
		if ids != nil || f != fault(api.ErrLimit, 2, "one") {
			t.Errorf("P13.1: %v behind the last row: %v, %v", op, ids, f)
		}
	}
	if n, m := d.Table("one").Live().Count(), d.Table("zone").Next(); n != 65533 || m != 4 {
		t.Errorf("P13.1: %d, %d rows behind the last", n, m)
	}
}

func TestNil(t *testing.T) {
	for _, d := range []*data.DB{nil, {}, data.New()} {
		for _, c := range []struct {
			ops  []api.Op
			want api.Fault
		}{
			{nil, fault(api.ErrLimit, 0, "")},
			{make([]api.Op, 41), fault(api.ErrLimit, 0, "")},
			{make([]api.Op, 40), fault(api.ErrForm, 0, "")},
			{[]api.Op{insert("one", num(1))}, fault(api.ErrName, 0, "one")},
			{[]api.Op{insert("")}, fault(api.ErrName, 0, "")},
			{[]api.Op{remove("one", 0)}, fault(api.ErrName, 0, "one")},
			{[]api.Op{update("one", 0, "n", num(1))}, fault(api.ErrName, 0, "one")},
			{[]api.Op{{Do: api.DoUpdate, Table: "one"}}, fault(api.ErrForm, 0, "one")},
		} {
			if ids, f := batch.Apply(d, c.ops); ids != nil || f != c.want {
				t.Errorf("P13.1: a DB of no tables: Apply(%v): %v, %v, not %v", c.ops, ids, f, c.want)
			}
		}
		if d != nil && len(d.Schema().Names()) != 0 {
			t.Error("P13.1: Apply made a table")
		}
	}
}

// A table that the DB's schema was told of is a table of the DB.
func TestTableOfTheSchema(t *testing.T) {
	d := data.New()
	d.Schema().Add(star()[2])
	ids, f := batch.Apply(d, []api.Op{insert("one", num(1)), insert("one", num(2)), remove("one", 0)})
	if !slices.Equal(ids, []int{0, 1}) || f.Err != api.OK {
		t.Errorf("P13.1: %v, %v", ids, f)
	}
	if v, ok := d.Table("one").Get(1, "n"); v != num(2) || !ok {
		t.Errorf("P13.1: %v, %v", v, ok)
	}
}

// The batch is done in d itself, in the tables that were asked for before, and
// in nothing that was made of d.
func TestItself(t *testing.T) {
	x := filled(t)
	ones, other := x.d.Table("one"), x.d.Copy()
	x.apply(t, []api.Op{insert("one", num(1)), insert("one", num(2)), remove("zone", 1)}, 2)
	if x.d.Table("one") != ones || ones.Next() != 2 {
		t.Errorf("P13.1: the table itself has %d rows", ones.Next())
	}
	if other.Table("one").Next() != 0 || other.Table("zone").Live().Count() != 2 {
		t.Error("P13.1: the copy was changed")
	}
	pair{other, filled(t).m}.same(t)
}

// small are ops of all kinds with few names, numbers and values.
func small() []api.Op {
	vals := [][]api.Value{
		nil, {null()}, {num(1)}, {text("z")}, {text("z"), num(1)}, {num(1), text("z")}, {null(), null()},
		{num(1), text("z"), null()}, {num(1), null(), text("'")}, {num(1), null(), api.Value{Kind: 4}},
		{num(1), null(), null(), null()}, {api.Value{Kind: api.VInt, N: 1, S: "1"}},
	}
	var all []api.Op
	for do := -1; do <= 4; do++ {
		for _, name := range []string{"zone", "store", "none"} {
			for id := -1; id <= 3; id++ {
				for _, col := range []string{"size", "zone", "id", ""} {
					for _, v := range vals {
						all = append(all, api.Op{Do: do, Table: name, Id: id, Col: col, Vals: v})
					}
				}
			}
		}
	}
	return all
}

func TestAllSmallOps(t *testing.T) {
	x := filled(t)
	for k, op := range small() {
		if k%40 == 0 {
			x = filled(t)
		}
		x.both(t, []api.Op{op})
		x.both(t, []api.Op{insert("one", num(int64(k))), op, update("one", 0, "n", num(1))})
	}
}

// next is a plain row of numbers that look mixed, from 0 to below below.
func next(x *uint32, below int) int {
	*x = *x*1664525 + 1013904223
	return int(*x>>8) % below
}

// some is an op that most often may be.
func some(r *uint32, x pair) api.Op {
	l := x.m[next(r, len(x.m))]
	k := next(r, len(l.form.Cols))
	of := func(kind int) api.Value {
		switch {
		case next(r, 5) == 0:
			return null()
		case (kind == api.VInt) == (next(r, 300) > 0):
			return num(int64(next(r, 5)))
		}
		return text([]string{"", "z", "y"}[next(r, 3)])
	}
	op := api.Op{Do: 1 + next(r, 3), Table: l.form.Name, Id: next(r, l.next+1), Col: l.form.Cols[k].Name}
	if _, ok := l.rows[op.Id]; !ok && next(r, 50) > 0 {
		op.Do = api.DoInsert
	}
	switch {
	case op.Do == api.DoUpdate:
		op.Vals = row(of(l.form.Cols[k].Kind))
	default:
		for _, c := range l.form.Cols {
			op.Vals = append(op.Vals, of(c.Kind))
		}
	}
	return op
}

func TestManyBatches(t *testing.T) {
	r, done, failed := uint32(1), 0, 0
	x := made(t, star())
	for range 600 {
		var ops []api.Op
		for range 1 + next(&r, 45) {
			ops = append(ops, some(&r, x))
		}
		if _, f := x.both(t, ops); f.Err == api.OK {
			done++
		} else {
			failed++
		}
	}
	if done < 100 || failed < 100 {
		t.Errorf("%d batches done, %d not", done, failed)
	}
}

// What goes in is neither changed nor kept, its spare room neither (P0.3).
func TestWhatGoesIn(t *testing.T) {
	x := filled(t)
	vals := row(text("b"), num(5), text("spare"), text("spare"))
	ops := []api.Op{
		{Do: api.DoInsert, Table: "zone", Vals: vals[:2]},
		{Do: api.DoInsert, Table: "zone", Vals: vals[:2]},
		{Do: api.DoUpdate, Table: "zone", Id: 2, Col: "size", Vals: vals[1:2]},
		{Do: api.DoDelete, Table: "zone", Id: 0, Vals: vals},
		{Table: "spare", Vals: vals},
	}
	before := fmt.Sprint(ops, vals)
	x.apply(t, ops[:4], 2)
	x.fails(t, fault(api.ErrNone, 3, "zone"), ops[:4]...)
	if got := fmt.Sprint(ops, vals); got != before {
		t.Errorf("P0.3: Apply wrote into what it was given: %s, not %s", got, before)
	}
	for k := range vals {
		vals[k] = text("spoilt")
	}
	clear(ops)
	x.same(t)
}

// What comes out is new memory (P0.3).
func TestWhatComesOut(t *testing.T) {
	x := filled(t)
	ops := []api.Op{insert("one", num(1)), insert("one", num(2)), insert("one", num(3))}
	first := x.apply(t, ops, 3)
	second := x.apply(t, ops, 3)
	for k := range first[:cap(first)] {
		first[:cap(first)][k] = -1
	}
	if !slices.Equal(second, []int{3, 4, 5}) {
		t.Errorf("P0.3: rows inserted: %v", second)
	}
	x.same(t)
	x.apply(t, ops, 3)
}
