package load_test

import (
	"fmt"
	"maps"
	"math"
	"slices"
	"strconv"
	"strings"
	"testing"

	"asterism/api"
	"asterism/data"
	"asterism/load"
)

func null() api.Value { return api.Value{} }

func num(n int64) api.Value { return api.Value{Kind: api.VInt, N: n} }

func text(s string) api.Value { return api.Value{Kind: api.VText, S: s} }

func insert(name string, vals ...api.Value) api.Op {
	return api.Op{Do: api.DoInsert, Table: name, Vals: vals}
}

func remove(name string, id int) api.Op {
	return api.Op{Do: api.DoDelete, Table: name, Id: id}
}

func update(name string, id int, col string, v api.Value) api.Op {
	return api.Op{Do: api.DoUpdate, Table: name, Id: id, Col: col, Vals: []api.Value{v}}
}

// star has keys of both kinds, a table without a Key, and all that may be
// asked of rows.
func star() []api.Table {
	return []api.Table{
		{Name: "zone", Key: "name", Cols: []api.Col{
			{Name: "size", Kind: api.VInt, Must: true}, {Name: "name", Kind: api.VText},
		}},
		{Name: "store", Key: "id", Cols: []api.Col{
			{Name: "id", Kind: api.VInt}, {Name: "zone", Kind: api.VText, To: "zone"},
			{Name: "town", Kind: api.VText}, {Name: "post", Kind: api.VInt},
		}, Deps: []api.Dep{{Left: []string{"town"}, Right: "post"}}},
		{Name: "sale", Cols: []api.Col{
			{Name: "store", Kind: api.VInt, To: "store"}, {Name: "what", Kind: api.VText, Must: true},
			{Name: "n", Kind: api.VInt},
		}, Deps: []api.Dep{{Left: []string{"store", "what"}, Right: "n"}}},
	}
}

// pair is a DB and what it must be like.
type pair struct {
	d *data.DB
	m model
}

func made(t *testing.T, tables []api.Table) pair {
	t.Helper()
	d := data.New()
	for _, form := range tables {
		if err := d.Add(form); err != api.OK {
			t.Fatalf("Add(%v): %v", form, err)
		}
	}
	return pair{d, empty(tables)}
}

// put does ops without asking what must hold.
func (x pair) put(t *testing.T, ops ...api.Op) pair {
	t.Helper()
	for _, op := range ops {
		rows := x.d.Table(op.Table)
		done := false
		switch op.Do {
		case api.DoInsert:
			_, err := rows.Insert(op.Vals)
			done = err == api.OK
		case api.DoDelete:
			done = rows.Delete(op.Id)
		case api.DoUpdate:
			done = rows.Set(op.Id, op.Col, op.Vals[0]) == api.OK
		}
		if _, err := x.m.do(op); err != api.OK || !done {
			t.Fatalf("%v: %v, %v", op, done, err)
		}
	}
	return x
}

// filled is a star of whose rows all holds, one of which is gone.
func filled(t *testing.T) pair {
	t.Helper()
	return made(t, star()).put(t,
		insert("zone", num(7), text("z")),
		insert("zone", num(7), text("y")),
		insert("store", num(90), null(), null(), null()),
		remove("store", 0),
		insert("store", num(1), text("z"), text("a"), num(5)),
		insert("store", num(2), text("y"), text("a"), num(5)),
		insert("store", num(3), null(), null(), null()),
		insert("sale", num(1), text("tea"), num(4)),
		insert("sale", null(), text("tea"), num(5)),
		insert("sale", num(2), text("nut"), null()),
	)
}

// told tells all that may be asked of d's tables.
func told(d *data.DB) string {
	var b strings.Builder
	for _, name := range d.Schema().Names() {
		rows := d.Table(name)
		fmt.Fprintln(&b, name, rows.Form(), rows.Next(), rows.Live().Runs())
		for id := range rows.Live().All() {
			vals, _ := rows.Row(id)
			fmt.Fprintln(&b, id, vals)
		}
		for _, c := range rows.Form().Cols {
			fmt.Fprintln(&b, c.Name, rows.Words(c.Name))
		}
	}
	return b.String()
}

// told tells of the model what told tells of a DB.
func (m model) told() string {
	var b strings.Builder
	for _, l := range m {
		var runs [][2]int
		ids := slices.Sorted(maps.Keys(l.rows))
		for _, id := range ids {
			if k := len(runs) - 1; k >= 0 && runs[k][1] == id {
				runs[k][1]++
			} else {
				runs = append(runs, [2]int{id, id + 1})
			}
		}
		fmt.Fprintln(&b, l.form.Name, l.form, l.next, runs)
		for _, id := range ids {
			fmt.Fprintln(&b, id, l.rows[id])
		}
		for k, c := range l.form.Cols {
			fmt.Fprintln(&b, c.Name, l.words(k))
		}
	}
	return b.String()
}

// load holds a Load against the model's; the pair that it answers has a nil
// model, if it may not be.
func (x pair) load(t *testing.T, ops ...api.Op) (pair, []int, api.Fault) {
	t.Helper()
	was := told(x.d)
	m, want, fault := x.m.load(ops)
	d, ids, f := load.Load(x.d, ops)
	if f != fault || !slices.Equal(ids, want) {
		t.Fatalf("P15.1: Load(%.3000s): %v, %.3000s, not %v, %.3000s", fmt.Sprint(ops), ids, fmt.Sprint(f), want, fmt.Sprint(fault))
	}
	if (d == nil) != (f.Err != api.OK) || f.Err != api.OK && ids != nil {
		t.Fatalf("P15.1: Load(%.3000s): %v, %v beside %.3000s", fmt.Sprint(ops), d == nil, ids, fmt.Sprint(f))
	}
	if d == x.d && d != nil {
		t.Fatalf("P15.1: Load(%.3000s): not another DB", fmt.Sprint(ops))
	}
	if now := told(x.d); now != was {
		t.Fatalf("P15.1: Load(%.3000s): d was %s, is %s", fmt.Sprint(ops), was, now)
	}
	if d != nil && told(d) != m.told() {
		t.Fatalf("P15.1: Load(%.3000s): %s, not %s", fmt.Sprint(ops), told(d), m.told())
	}
	return pair{d, m}, ids, f
}

// loads answers the pair of a Load that may be.
func (x pair) loads(t *testing.T, ops ...api.Op) pair {
	t.Helper()
	next, _, f := x.load(t, ops...)
	if next.d == nil {
		t.Fatalf("P15.1: Load(%.3000s): %.3000s", fmt.Sprint(ops), fmt.Sprint(f))
	}
	return next
}

func (x pair) fails(t *testing.T, want api.Fault, ops ...api.Op) {
	t.Helper()
	if _, _, f := x.load(t, ops...); f != want {
		t.Fatalf("P15.1: Load(%.3000s): %.3000s, not %.3000s", fmt.Sprint(ops), fmt.Sprint(f), fmt.Sprint(want))
	}
}

func TestWhole(t *testing.T) {
	x := filled(t)
	next, ids, _ := x.load(t,
		insert("store", num(4), text("x"), text("b"), num(6)),
		insert("zone", num(8), text("x")),
		update("store", 3, "zone", text("x")),
		remove("sale", 0),
		insert("store", num(5), text("x"), text("b"), num(6)),
		insert("sale", num(5), text("tea"), num(4)),
	)
	if !slices.Equal(ids, []int{4, 2, 5, 3}) {
		t.Errorf("P15.1: the rows inserted are %v", ids)
	}
	if v, ok := next.d.Value("sale", 3, api.Path{"store", "zone", "size"}); v != num(8) || !ok {
		t.Errorf("P15.1: behind the row inserted stands %v, %v", v, ok)
	}
	if _, ok := next.d.Table("sale").Row(0); ok {
		t.Error("P15.1: the row deleted is there")
	}
	if got := next.d.Schema().Names(); !slices.Equal(got, []string{"zone", "store", "sale"}) {
		t.Errorf("P15.1: the tables are %v", got)
	}
	_, ids, _ = x.load(t, remove("sale", 0))
	if len(ids) != 0 {
		t.Errorf("P15.1: the rows inserted are %v", ids)
	}
}

// TestNeedNot: ahead of the batch and between two ops there may be anything.
func TestNeedNot(t *testing.T) {
	x := filled(t)
	for _, ops := range [][]api.Op{
		{update("store", 1, "id", num(2)), update("store", 2, "id", num(1))}, // a key twice
		{remove("store", 2), insert("store", num(2), null(), null(), null())},
		{insert("store", num(3), null(), null(), null()), remove("store", 3)},
		{remove("zone", 0), insert("zone", num(1), text("z"))}, // a key that is not there
		{insert("sale", num(9), text("tea"), num(1)), insert("store", num(9), null(), null(), null())},
		{remove("zone", 0), remove("store", 1), remove("sale", 0)},
		{update("store", 1, "post", num(6)), update("store", 2, "post", num(6))}, // what determines what
		{update("zone", 0, "size", null()), update("zone", 0, "size", num(1))},   // what must be
		{update("store", 3, "id", null()), remove("store", 3)},
		{insert("sale", null(), null(), null()), update("sale", 3, "what", text("oil"))},
	} {
		x.loads(t, ops...)
		for k := 1; k < len(ops); k++ {
			if _, _, f := x.load(t, ops[:k]...); f.Err == api.OK || f.At != k {
				t.Errorf("P15.1: Load(%v): %v", ops[:k], f)
			}
		}
	}
}

// TestMends: what does not hold ahead of the batch may hold behind it.
func TestMends(t *testing.T) {
	for _, c := range []struct {
		wrong, mend api.Op
		f           api.Fault
	}{
		{insert("zone", num(1), text("z")), remove("zone", 2), api.Fault{Err: api.ErrKey, Table: "zone", Row: 2, Col: "name"}},
		{insert("zone", null(), text("x")), update("zone", 2, "size", num(1)), api.Fault{Err: api.ErrNull, Table: "zone", Row: 2, Col: "size"}},
		{remove("zone", 1), insert("zone", num(1), text("y")), api.Fault{Err: api.ErrRef, Table: "store", Row: 2, Col: "zone"}},
		{update("store", 1, "post", num(6)), update("store", 2, "town", null()), api.Fault{Err: api.ErrDep, Table: "store", Row: 2, Col: "post"}},
	} {
		x := filled(t).put(t, c.wrong)
		harmless := update("sale", 0, "n", num(9))
		for n := 1; n <= api.MaxOps; n++ {
			f := c.f
			f.At = n
			x.fails(t, f, slices.Repeat([]api.Op{harmless}, n)...)
		}
		if c.mend.Table == "store" { // and then the rows are told that the town is null's
			x.fails(t, api.Fault{Err: api.ErrDep, At: 1, Table: "store", Row: 3, Col: "post"}, c.mend)
			x.loads(t, c.mend, update("store", 3, "post", num(5)))
			continue
		}
		x.loads(t, c.mend)
		x.loads(t, harmless, c.mend)
		x.loads(t, c.mend, harmless)
	}
}

// TestCheckFaults: all that check tells, and At: how many ops.
func TestCheckFaults(t *testing.T) {
	x := filled(t)
	for _, c := range []struct {
		ops []api.Op
		f   api.Fault
	}{
		{[]api.Op{insert("zone", null(), text("x"))}, api.Fault{Err: api.ErrNull, Table: "zone", Row: 2, Col: "size"}},
		{[]api.Op{update("store", 2, "id", null())}, api.Fault{Err: api.ErrNull, Table: "store", Row: 2, Col: "id"}},
		{[]api.Op{insert("zone", num(1), text("y"))}, api.Fault{Err: api.ErrKey, Table: "zone", Row: 2, Col: "name"}},
		{[]api.Op{update("zone", 0, "name", text("y"))}, api.Fault{Err: api.ErrKey, Table: "zone", Row: 1, Col: "name"}},
		{[]api.Op{remove("zone", 1)}, api.Fault{Err: api.ErrRef, Table: "store", Row: 2, Col: "zone"}},
		{[]api.Op{remove("sale", 2), remove("store", 1)}, api.Fault{Err: api.ErrRef, Table: "sale", Col: "store"}},
		{[]api.Op{insert("store", num(4), null(), null(), num(1))}, api.Fault{Err: api.ErrDep, Table: "store", Row: 4, Col: "post"}},
		{[]api.Op{remove("sale", 0), insert("sale", null(), text("tea"), null()), remove("sale", 2)}, api.Fault{Err: api.ErrDep, Table: "sale", Row: 3, Col: "n"}},
		// More than one of them: check's order, not the ops'.
		{[]api.Op{insert("sale", num(8), null(), null()), remove("zone", 0)}, api.Fault{Err: api.ErrRef, Table: "store", Row: 1, Col: "zone"}},
		{[]api.Op{insert("sale", num(8), null(), null()), update("sale", 0, "store", num(7))}, api.Fault{Err: api.ErrRef, Table: "sale", Col: "store"}},
	} {
		for n := range 3 {
			ops := slices.Concat(slices.Repeat([]api.Op{update("sale", 1, "n", num(5))}, n), c.ops)
			c.f.At = len(ops)
			x.fails(t, c.f, ops...)
		}
	}
}

func TestBatchFaults(t *testing.T) {
	x := filled(t)
	wrong := insert("zone", num(1), text("y")) // a key twice
	for _, c := range []struct {
		op  api.Op
		err api.Errno
	}{
		{api.Op{}, api.ErrForm},
		{api.Op{Do: 4, Table: "zone"}, api.ErrForm},
		{api.Op{Do: -1, Table: "sale"}, api.ErrForm},
		{api.Op{Do: math.MaxInt, Table: "none"}, api.ErrForm},
		{api.Op{Do: api.DoUpdate, Table: "zone", Col: "size"}, api.ErrForm},
		{api.Op{Do: api.DoUpdate, Table: "zone", Col: "size", Vals: []api.Value{num(1), num(1)}}, api.ErrForm},
		{insert("zone", num(1)), api.ErrForm},
		{insert("none", num(1)), api.ErrName},
		{remove("", 0), api.ErrName},
		{update("zone", 0, "none", num(1)), api.ErrName},
		{insert("zone", text("x"), text("x")), api.ErrType},
		{insert("zone", num(1), text(strings.Repeat("x", 13))), api.ErrType},
		{update("zone", 0, "size", text("x")), api.ErrType},
		{remove("store", 0), api.ErrNone},
		{remove("sale", 3), api.ErrNone},
		{remove("sale", -1), api.ErrNone},
		{update("sale", math.MinInt, "n", num(1)), api.ErrNone},
	} {
		// What check would tell does not count, be it there ahead or behind.
		for n := range 4 {
			ops := slices.Concat(slices.Repeat([]api.Op{wrong}, n), []api.Op{c.op, wrong, {}})
			x.fails(t, api.Fault{Err: c.err, At: n, Table: c.op.Table}, ops...)
		}
		x.fails(t, api.Fault{Err: c.err, Table: c.op.Table}, c.op)
		filled(t).put(t, wrong).fails(t, api.Fault{Err: c.err, Table: c.op.Table}, c.op)
	}
}

func TestHowMany(t *testing.T) {
	x := filled(t)
	x.fails(t, api.Fault{Err: api.ErrLimit})
	if d, ids, f := load.Load(x.d, []api.Op{}); d != nil || ids != nil || f != (api.Fault{Err: api.ErrLimit}) {
		t.Errorf("P15.1: Load of no ops: %v, %v, %v", d == nil, ids, f)
	}
	var ops []api.Op
	for k := range 41 {
		ops = append(ops, insert("sale", null(), text("w"+strconv.Itoa(k)), num(int64(k))))
	}
	x.loads(t, ops[:1]...)
	x.loads(t, ops[:38]...) // two texts are there
	x.fails(t, api.Fault{Err: api.ErrLimit, At: 39, Table: "sale", Col: "what"}, ops[:39]...)
	x.fails(t, api.Fault{Err: api.ErrLimit, At: 40, Table: "sale", Col: "what"}, ops[:40]...)
	x.fails(t, api.Fault{Err: api.ErrLimit}, ops...)
	x.fails(t, api.Fault{Err: api.ErrLimit}, slices.Repeat([]api.Op{{Do: 9, Table: "zone"}}, 41)...)
	x.fails(t, api.Fault{Err: api.ErrLimit}, slices.Repeat(ops, 100)...)
	x.put(t, remove("zone", 0)).fails(t, api.Fault{Err: api.ErrLimit})
}

// TestFull: more than 64 rows and more than 40 texts may be between two ops.
func TestFull(t *testing.T) {
	x := made(t, star())
	var ops []api.Op
	for k := range 64 {
		ops = append(ops, insert("store", num(int64(k)), null(), text("t"+strconv.Itoa(k%40)), null()))
	}
	x = x.loads(t, ops[:40]...).loads(t, ops[40:]...)
	more := insert("store", num(64), null(), null(), null())
	word := update("store", 50, "town", text("other"))
	x.fails(t, api.Fault{Err: api.ErrLimit, At: 1, Table: "store"}, more)
	x.fails(t, api.Fault{Err: api.ErrLimit, At: 1, Table: "store", Col: "town"}, word)
	x.fails(t, api.Fault{Err: api.ErrLimit, At: 2, Table: "store"}, word, more)
	x.loads(t, more, remove("store", 0))
	x.loads(t, word, update("store", 39, "town", text("t0")))
	next := x.loads(t, word, more, remove("store", 39))
	next.fails(t, api.Fault{Err: api.ErrLimit, At: 1, Table: "store"}, insert("store", num(65), null(), null(), null()))
}

// TestNumbers: a Load that may not be takes no row's number; one that may be
// goes on where the DB that it was given is.
func TestNumbers(t *testing.T) {
	x := filled(t)
	row := insert("sale", null(), text("oil"), null())
	for range 3 {
		x.fails(t, api.Fault{Err: api.ErrNone, At: 2, Table: "sale"}, row, row, remove("sale", 9))
		if _, ids, _ := x.load(t, row, row); !slices.Equal(ids, []int{3, 4}) {
			t.Fatalf("P15.1: the rows inserted are %v", ids)
		}
	}
	y := x.loads(t, row, row, remove("sale", 4))
	if _, ids, _ := y.load(t, row); !slices.Equal(ids, []int{5}) {
		t.Fatalf("P15.1: the row inserted is %v", ids)
	}
	if _, ids, _ := x.load(t, row); !slices.Equal(ids, []int{3}) {
		t.Fatalf("P15.1: the row inserted is %v", ids)
	}
}

func TestLastNumber(t *testing.T) {
	x := made(t, []api.Table{{Name: "one", Cols: []api.Col{{Name: "n", Kind: api.VInt}}}})
	row := insert("one", num(1))
	for id := range 65534 {
		x.put(t, row, remove("one", id))
	}
	x.fails(t, api.Fault{Err: api.ErrLimit, At: 2, Table: "one"}, row, row, row)
	y, ids, _ := x.load(t, row, row)
	if !slices.Equal(ids, []int{65534, 65535}) {
		t.Fatalf("P15.1: the rows inserted are %v", ids)
	}
	y.fails(t, api.Fault{Err: api.ErrLimit, Table: "one"}, row)
	y.loads(t, update("one", 65535, "n", num(2)), remove("one", 65534))
}

// TestOwnWays: neither of two DBs sees what is done to the other, nor to its
// tables or its schema.
func TestOwnWays(t *testing.T) {
	x := filled(t)
	first := x.loads(t, insert("zone", num(1), text("x")))
	other := x.loads(t, insert("zone", num(2), text("w")))
	second := first.loads(t, remove("zone", 2), update("sale", 0, "n", num(8)))
	all := []pair{x, first, other, second}
	for k, y := range all {
		y.put(t, insert("sale", num(int64(k)), null(), null()), update("zone", 0, "size", num(int64(10*k))), remove("store", 3))
		form := api.Table{Name: "new" + strconv.Itoa(k), Cols: []api.Col{{Name: "n", Kind: api.VInt}}}
		if y.d.Add(form) != api.OK || y.d.Schema().Add(api.Table{Name: "late", Cols: form.Cols}) != api.OK {
			t.Fatal("Add")
		}
		all[k].m = append(y.m, empty([]api.Table{form, {Name: "late", Cols: form.Cols}})...)
		for n, z := range all {
			if told(z.d) != z.m.told() {
				t.Fatalf("P15.1: what was done to the DB %d: %d is %s, not %s", k, n, told(z.d), z.m.told())
			}
		}
	}
}

// TestTables: another DB has all tables, those too that have no rows, or were
// added to the schema alone.
func TestTables(t *testing.T) {
	x := pair{d: data.New()}
	x.fails(t, api.Fault{Err: api.ErrName, Table: "one"}, insert("one", num(1)))
	forms := []api.Table{
		{Name: "one", Key: "n", Cols: []api.Col{{Name: "n", Kind: api.VInt}}},
		{Name: "two", Cols: []api.Col{{Name: "at", Kind: api.VInt, To: "one"}}},
	}
	for k, form := range forms {
		if x.d.Schema().Add(form) != api.OK {
			t.Fatal("Add")
		}
		x.m = empty(forms[:k+1])
		x.loads(t, insert("one", num(1)))
	}
	x.fails(t, api.Fault{Err: api.ErrRef, At: 1, Table: "two", Col: "at"}, insert("two", num(1)))
	x.loads(t, insert("two", num(1)), insert("one", num(1))).loads(t, insert("two", num(1)))
}

func TestNilDB(t *testing.T) {
	for _, ops := range [][]api.Op{
		nil, {}, {insert("zone", num(1))}, {remove("", 0)}, {update("zone", 0, "n", num(1))}, {{}}, {{Do: 3}},
		slices.Repeat([]api.Op{remove("zone", 0)}, 40), slices.Repeat([]api.Op{remove("zone", 0)}, 41),
	} {
		_, _, want := model{}.load(ops)
		for _, d := range []*data.DB{nil, {}, data.New()} {
			if n, ids, f := load.Load(d, ops); n != nil || ids != nil || f != want || f.Err == api.OK {
				t.Errorf("P15.1: Load of no tables, %.500s: %v, %v, %v, not %v", fmt.Sprint(ops), n == nil, ids, f, want)
			}
		}
	}
}

// TestHandedIn: a list that is handed in is neither changed nor kept.
func TestHandedIn(t *testing.T) {
	x := filled(t)
	room := []api.Op{
		insert("zone", num(1), text("x")), insert("zone", num(2), text("w")),
		update("zone", 0, "size", num(3)), insert("store", num(1), null(), null(), null()),
	}
	ops := func() []api.Op { return room[:3:4] }
	vals := append(make([]api.Value, 0, 8), num(1), text("x"))
	room[0].Vals = vals
	was := fmt.Sprint(room, vals[:8])
	d, ids, _ := load.Load(x.d, ops())
	e, others, _ := load.Load(x.d, ops())
	load.Load(x.d, room[:4])
	if fmt.Sprint(room, vals[:8]) != was {
		t.Error("P0.3: Load changed what was handed in")
	}
	tells := told(d)
	clear(ids[:cap(ids)])
	for k := range room {
		clear(room[k].Vals)
		room[k] = api.Op{}
	}
	clear(vals[:8])
	if !slices.Equal(others, []int{2, 3}) || told(d) != tells || told(e) != tells {
		t.Errorf("P0.3: what was handed in or out is kept: %v, %s, %s, not %s", others, told(d), told(e), tells)
	}
}

// small has few values, so that all batches of them may be gone through.
func small(t *testing.T) (pair, []api.Op) {
	t.Helper()
	x := made(t, []api.Table{
		{Name: "a", Key: "k", Cols: []api.Col{{Name: "k", Kind: api.VInt}, {Name: "v", Kind: api.VText, Must: true}}},
		{Name: "b", Cols: []api.Col{{Name: "a", Kind: api.VInt, To: "a"}, {Name: "w", Kind: api.VInt}},
			Deps: []api.Dep{{Left: []string{"a"}, Right: "w"}}},
	}).put(t, insert("a", num(1), text("p")), insert("a", num(2), text("q")), insert("b", num(1), num(7)))
	return x, []api.Op{
		insert("a", num(1), text("p")), insert("a", num(3), text("p")), insert("a", num(3), null()),
		insert("b", num(1), num(7)), insert("b", num(1), num(8)), insert("b", num(3), null()),
		insert("b", null()), insert("c"), {}, remove("a", 0), remove("a", 2), remove("b", 0), remove("b", 1),
		update("a", 0, "k", num(2)), update("a", 1, "k", num(1)), update("a", 2, "v", text("r")),
		update("b", 0, "w", num(8)), update("b", 0, "a", null()), update("b", 0, "a", text("")),
	}
}

func TestAllSmall(t *testing.T) {
	x, ops := small(t)
	told := map[api.Errno]int{}
	for _, a := range ops {
		_, _, f := x.load(t, a)
		told[f.Err]++
		for _, b := range ops {
			_, _, f = x.load(t, a, b)
			told[f.Err]++
			for _, c := range ops {
				_, _, f = x.load(t, a, b, c)
				told[f.Err]++
			}
		}
	}
	for _, err := range []api.Errno{
		api.OK, api.ErrForm, api.ErrName, api.ErrType, api.ErrNone, api.ErrNull, api.ErrKey, api.ErrRef, api.ErrDep,
	} {
		if told[err] < 20 {
			t.Errorf("the error %d was told %d times", err, told[err])
		}
	}
}

func next(x *uint32, below int) int {
	*x = *x*1664525 + 1013904223
	return int(*x>>8) % below
}

func mixedValue(x *uint32) api.Value {
	switch next(x, 8) {
	case 0:
		return null()
	case 1, 2, 3:
		return text(string(rune('a' + next(x, 4))))
	default:
		return num(int64(next(x, 4)))
	}
}

func ofKind(x *uint32, kind int) api.Value {
	for {
		if v := mixedValue(x); v.Kind == kind || v.Kind == api.VNull {
			return v
		}
	}
}

// mixedOp answers an op that mostly may be.
func mixedOp(x *uint32, m model) api.Op {
	l := m[next(x, len(m))]
	op := api.Op{Do: 1 + next(x, 3), Table: l.form.Name, Id: next(x, l.next+1)}
	if next(x, 60) == 0 {
		op.Do = next(x, 5)
	}
	if ids := slices.Sorted(maps.Keys(l.rows)); len(ids) > 0 && next(x, 40) > 0 {
		op.Id = ids[next(x, len(ids))]
	}
	switch op.Do {
	case api.DoInsert:
		for _, c := range l.form.Cols {
			op.Vals = append(op.Vals, ofKind(x, c.Kind))
		}
	case api.DoUpdate:
		c := l.form.Cols[next(x, len(l.form.Cols))]
		op.Col, op.Vals = c.Name, []api.Value{ofKind(x, c.Kind)}
	}
	return op
}

// TestMixed goes on from each DB that was loaded, and back to older ones.
func TestMixed(t *testing.T) {
	var x uint32 = 15
	done, not := 0, 0
	for range 60 {
		all := []pair{filled(t)}
		for range 40 {
			from := all[max(0, len(all)-1-next(&x, 4)*next(&x, 2))]
			var ops []api.Op
			for range 1 + next(&x, 3) {
				ops = append(ops, mixedOp(&x, from.m))
			}
			if to, _, _ := from.load(t, ops...); to.d != nil {
				all = append(all, to)
				done++
			} else {
				not++
			}
		}
		for k, y := range all {
			if told(y.d) != y.m.told() {
				t.Fatalf("P15.1: the DB %d is %s, not %s", k, told(y.d), y.m.told())
			}
		}
	}
	if done < 300 || not < 300 {
		t.Errorf("%d were done, %d were not", done, not)
	}
}

// TestAskedAgain: what is answered hangs on d and the batch alone.
func TestAskedAgain(t *testing.T) {
	x, ops := small(t)
	for _, a := range ops {
		for _, b := range ops {
			d, ids, f := load.Load(x.d, []api.Op{a, b})
			was := fmt.Sprint(ids, f, told(d))
			load.Load(x.d, []api.Op{b})
			d, ids, f = load.Load(x.d, []api.Op{a, b})
			if now := fmt.Sprint(ids, f, told(d)); now != was {
				t.Fatalf("P0.5: Load(%v, %v): %s, was %s", a, b, now, was)
			}
		}
	}
}
