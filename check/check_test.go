package check_test

import (
	"fmt"
	"math"
	"slices"
	"strconv"
	"strings"
	"testing"

	"asterism/api"
	"asterism/check"
	"asterism/data"
)

func null() api.Value { return api.Value{} }

func num(n int64) api.Value { return api.Value{Kind: api.VInt, N: n} }

func text(s string) api.Value { return api.Value{Kind: api.VText, S: s} }

func row(vals ...api.Value) []api.Value { return vals }

func dep(right string, left ...string) api.Dep { return api.Dep{Left: left, Right: right} }

// star has keys of both kinds (zone's stands behind, and is a text), a table
// without a Key (sale), two columns to one table, and Lefts of one, two and
// three names, none of which stand as the columns do.
func star() []api.Table {
	return []api.Table{
		{Name: "zone", Key: "name", Cols: []api.Col{
			{Name: "size", Kind: api.VInt, Must: true}, {Name: "name", Kind: api.VText},
		}},
		{Name: "store", Key: "id", Cols: []api.Col{
			{Name: "id", Kind: api.VInt}, {Name: "zone", Kind: api.VText, To: "zone"},
			{Name: "town", Kind: api.VText, Must: true}, {Name: "post", Kind: api.VInt},
		}, Deps: []api.Dep{dep("post", "town"), dep("zone", "post")}},
		{Name: "sale", Cols: []api.Col{
			{Name: "a", Kind: api.VInt, To: "store"}, {Name: "b", Kind: api.VInt, Must: true, To: "store"},
			{Name: "what", Kind: api.VText}, {Name: "n", Kind: api.VInt},
			{Name: "nr", Kind: api.VInt, Must: true}, {Name: "note", Kind: api.VText},
		}, Deps: []api.Dep{dep("n", "what", "a"), dep("note", "nr", "b", "a"), dep("what", "nr")}},
	}
}

func made(t *testing.T, tables ...api.Table) *data.DB {
	t.Helper()
	d := data.New()
	for _, form := range tables {
		if err := d.Add(form); err != api.OK {
			t.Fatalf("Add(%v): %v", form, err)
		}
	}
	return d
}

func insert(t *testing.T, d *data.DB, name string, vals ...api.Value) int {
	t.Helper()
	id, err := d.Table(name).Insert(vals)
	if err != api.OK {
		t.Fatalf("Insert(%v) of %s: %v", vals, name, err)
	}
	return id
}

func remove(t *testing.T, d *data.DB, name string, id int) {
	t.Helper()
	if !d.Table(name).Delete(id) {
		t.Fatalf("Delete(%d) of %s", id, name)
	}
}

func set(t *testing.T, d *data.DB, name string, id int, col string, v api.Value) {
	t.Helper()
	if err := d.Table(name).Set(id, col, v); err != api.OK {
		t.Fatalf("Set(%d, %q, %v) of %s: %v", id, col, v, name, err)
	}
}

// filled is a star of whose rows all holds. Some rows are gone, and no row of
// store or sale has a number like its key or like its place.
func filled(t *testing.T) *data.DB {
	t.Helper()
	d := made(t, star()...)
	insert(t, d, "zone", num(7), text("z"))
	insert(t, d, "zone", num(7), text(""))
	for range 2 {
		remove(t, d, "store", insert(t, d, "store", num(10), null(), text("p"), num(1)))
		remove(t, d, "sale", insert(t, d, "sale", num(0), num(0), null(), null(), num(0), null()))
	}
	insert(t, d, "store", num(10), text("z"), text("p"), num(1))
	insert(t, d, "store", num(0), text("z"), text("p"), num(1))
	insert(t, d, "store", num(-5), null(), text("q"), null())
	insert(t, d, "store", num(11), null(), text("r"), null())
	insert(t, d, "sale", num(10), num(0), text("tea"), num(5), num(1), text("x"))
	insert(t, d, "sale", null(), num(0), text("tea"), num(6), num(1), text("y"))
	insert(t, d, "sale", num(10), num(10), text("tea"), num(5), num(1), null())
	insert(t, d, "sale", num(-5), num(10), null(), null(), num(2), null())
	insert(t, d, "sale", null(), num(11), null(), num(5), num(2), null())
	return d
}

// list is a table as a list of rows.
type list struct {
	form api.Table
	ids  []int
	rows [][]api.Value
}

func listed(d *data.DB, name string) list {
	var l list
	l.form, _ = d.Schema().Find(name)
	for id := range d.Table(name).Next() {
		if vals, ok := d.Table(name).Row(id); ok {
			l.ids = append(l.ids, id)
			l.rows = append(l.rows, vals)
		}
	}
	return l
}

func (l list) col(name string) int {
	return slices.IndexFunc(l.form.Cols, func(c api.Col) bool { return c.Name == name })
}

func (l list) words(k int) int {
	unlike := map[string]bool{}
	for _, vals := range l.rows {
		if vals[k].Kind == api.VText {
			unlike[vals[k].S] = true
		}
	}
	return len(unlike)
}

// names asks whether v is the key of a row of l.
func (l list) names(v api.Value) bool {
	for _, vals := range l.rows {
		if vals[l.col(l.form.Key)] == v {
			return true
		}
	}
	return false
}

// agree asks whether the rows i and j are alike in all of the columns.
func (l list) agree(i, j int, cols ...string) bool {
	for _, name := range cols {
		if l.rows[i][l.col(name)] != l.rows[j][l.col(name)] {
			return false
		}
	}
	return true
}

// all has all faults of d in the chapter's order, each asked by itself: what
// the chapter says, said plainly.
func all(d *data.DB) []api.Fault {
	var fs []api.Fault
	for _, name := range d.Schema().Names() {
		l := listed(d, name)
		tell := func(is bool, err api.Errno, id int, col string) {
			if is {
				fs = append(fs, api.Fault{Err: err, Table: name, Row: id, Col: col})
			}
		}
		tell(len(l.rows) > 64, api.ErrLimit, 0, "")
		for k, c := range l.form.Cols {
			tell(l.words(k) > 40, api.ErrLimit, 0, c.Name)
		}
		for i, vals := range l.rows {
			for k, c := range l.form.Cols {
				tell(c.Must && vals[k] == null(), api.ErrNull, l.ids[i], c.Name)
			}
			for j := range i {
				tell(l.form.Key != "" && l.agree(i, j, l.form.Key), api.ErrKey, l.ids[i], l.form.Key)
			}
			for k, c := range l.form.Cols {
				tell(c.To != "" && vals[k] != null() && !listed(d, c.To).names(vals[k]), api.ErrRef, l.ids[i], c.Name)
			}
			for _, x := range l.form.Deps {
				for j := range i {
					tell(l.agree(i, j, x.Left...) && !l.agree(i, j, x.Right), api.ErrDep, l.ids[i], x.Right)
				}
			}
		}
	}
	return fs
}

// told holds Check against the plain list of all faults.
func told(t *testing.T, d *data.DB) api.Fault {
	t.Helper()
	want := api.Fault{}
	if fs := all(d); len(fs) > 0 {
		want = fs[0]
	}
	is(t, d, want)
	return want
}

func is(t *testing.T, d *data.DB, want api.Fault) {
	t.Helper()
	if f := check.Check(d); f != want {
		var rows []list
		for _, name := range d.Schema().Names() {
			rows = append(rows, listed(d, name))
		}
		t.Fatalf("P14.1: Check: %v, not %v, of %.3000s", f, want, fmt.Sprint(rows))
	}
}

func fault(err api.Errno, table string, id int, col string) api.Fault {
	return api.Fault{Err: err, Table: table, Row: id, Col: col}
}

func TestNothingIsWrong(t *testing.T) {
	for _, d := range []*data.DB{nil, {}, data.New(), made(t, star()[:1]...), made(t, star()...), filled(t), filled(t).Copy()} {
		if f := check.Check(d); f != (api.Fault{}) {
			t.Errorf("P14.1: Check: %v", f)
		}
		if len(all(d)) > 0 {
			t.Errorf("%v", all(d))
		}
	}
}

// change makes one thing wrong, alone; do answers false, if it can't be done.
type change struct {
	do   func(d *data.DB) bool
	want api.Fault
}

func setting(name string, id int, col string, v api.Value, want api.Fault) change {
	return change{func(d *data.DB) bool { return d.Table(name).Set(id, col, v) == api.OK }, want}
}

func removing(name string, id int, want api.Fault) change {
	return change{func(d *data.DB) bool { return d.Table(name).Delete(id) }, want}
}

// adding puts in n rows more, the i-th of which is what of says.
func adding(name string, n int, of func(i int) []api.Value, want api.Fault) change {
	return change{func(d *data.DB) bool {
		for i := range n {
			if _, err := d.Table(name).Insert(of(i)); err != api.OK {
				return false
			}
		}
		return true
	}, want}
}

func one(vals ...api.Value) func(int) []api.Value {
	return func(int) []api.Value { return vals }
}

func word(i int) api.Value { return text("w" + strconv.Itoa(i)) }

func key(i int) api.Value { return num(int64(100 + i)) }

func limitChanges() []change {
	limit := func(name, col string) api.Fault { return fault(api.ErrLimit, name, 0, col) }
	return []change{
		adding("zone", 63, func(i int) []api.Value { return row(num(1), word(i)) }, limit("zone", "")),
		adding("zone", 39, func(i int) []api.Value { return row(num(1), word(i)) }, limit("zone", "name")),
		adding("store", 61, func(i int) []api.Value { return row(key(i), null(), text("q"), null()) }, limit("store", "")),
		adding("store", 38, func(i int) []api.Value { return row(key(i), null(), word(i), null()) }, limit("store", "town")),
		adding("sale", 60, one(null(), num(0), null(), num(5), num(9), null()), limit("sale", "")),
		adding("sale", 40, func(i int) []api.Value {
			return row(null(), num(0), word(i), null(), key(i), null())
		}, limit("sale", "what")),
		adding("sale", 39, func(i int) []api.Value {
			return row(null(), num(0), null(), num(5), key(i), word(i))
		}, limit("sale", "note")),
	}
}

func nullChanges() []change {
	return []change{
		setting("zone", 0, "size", null(), fault(api.ErrNull, "zone", 0, "size")),
		setting("zone", 1, "size", null(), fault(api.ErrNull, "zone", 1, "size")),
		adding("zone", 1, one(num(7), null()), fault(api.ErrNull, "zone", 2, "name")),
		setting("store", 4, "town", null(), fault(api.ErrNull, "store", 4, "town")),
		adding("store", 1, one(null(), null(), text("s"), null()), fault(api.ErrNull, "store", 6, "id")),
		setting("sale", 6, "b", null(), fault(api.ErrNull, "sale", 6, "b")),
		setting("sale", 2, "nr", null(), fault(api.ErrNull, "sale", 2, "nr")),
	}
}

func keyChanges() []change {
	return []change{
		adding("zone", 1, one(num(8), text("z")), fault(api.ErrKey, "zone", 2, "name")),
		adding("zone", 1, one(num(8), text("")), fault(api.ErrKey, "zone", 2, "name")),
		setting("zone", 0, "name", text(""), fault(api.ErrKey, "zone", 1, "name")),
		setting("store", 4, "id", num(10), fault(api.ErrKey, "store", 4, "id")),
		setting("store", 2, "id", num(-5), fault(api.ErrKey, "store", 4, "id")),
		adding("store", 1, one(num(0), null(), text("s"), null()), fault(api.ErrKey, "store", 6, "id")),
	}
}

func refChanges() []change {
	return []change{
		adding("store", 1, one(num(12), text("none"), text("s"), num(9)), fault(api.ErrRef, "store", 6, "zone")),
		adding("store", 1, one(num(12), text(" "), text("s"), num(9)), fault(api.ErrRef, "store", 6, "zone")),
		removing("zone", 0, fault(api.ErrRef, "store", 2, "zone")),
		removing("store", 2, fault(api.ErrRef, "sale", 2, "a")),
		removing("store", 3, fault(api.ErrRef, "sale", 2, "b")),
		removing("store", 4, fault(api.ErrRef, "sale", 5, "a")),
		removing("store", 5, fault(api.ErrRef, "sale", 6, "b")),
		setting("sale", 3, "b", num(3), fault(api.ErrRef, "sale", 3, "b")),
		setting("sale", 3, "a", num(1), fault(api.ErrRef, "sale", 3, "a")),
	}
}

func depChanges() []change {
	of := func(name string, id int, col string) api.Fault { return fault(api.ErrDep, name, id, col) }
	return []change{
		setting("store", 3, "post", num(2), of("store", 3, "post")),
		setting("store", 2, "post", null(), of("store", 3, "post")),
		setting("store", 5, "zone", text(""), of("store", 5, "zone")),
		setting("store", 4, "zone", text("z"), of("store", 5, "zone")),
		setting("sale", 4, "n", num(6), of("sale", 4, "n")),
		setting("sale", 4, "n", null(), of("sale", 4, "n")),
		setting("sale", 2, "n", null(), of("sale", 4, "n")),
		adding("sale", 1, one(null(), num(0), null(), num(6), num(2), null()), of("sale", 7, "n")),
		adding("sale", 1, one(null(), num(0), null(), null(), num(2), null()), of("sale", 7, "n")),
		adding("sale", 1, one(num(10), num(0), text("tea"), num(5), num(1), text("z")), of("sale", 7, "note")),
		adding("sale", 1, one(num(10), num(0), text("tea"), num(5), num(1), null()), of("sale", 7, "note")),
		adding("sale", 1, one(null(), num(0), text("tea"), num(6), num(1), text("x")), of("sale", 7, "note")),
		adding("sale", 1, one(num(10), num(10), text("tea"), num(5), num(1), text("")), of("sale", 7, "note")),
		adding("sale", 1, one(num(0), num(0), text("nut"), null(), num(1), null()), of("sale", 7, "what")),
		adding("sale", 1, one(num(0), num(0), null(), null(), num(1), null()), of("sale", 7, "what")),
		adding("sale", 1, one(num(0), num(0), text(""), null(), num(2), null()), of("sale", 7, "what")),
	}
}

func changes() []change {
	return slices.Concat(limitChanges(), nullChanges(), keyChanges(), refChanges(), depChanges())
}

func TestEachFault(t *testing.T) {
	for _, c := range changes() {
		d := filled(t)
		if !c.do(d) {
			t.Fatalf("%v can't be done", c.want)
		}
		is(t, d, c.want)
		told(t, d)
	}
}

// Of two things that are wrong the chapter's first is told, whichever was
// there first.
func TestTwoFaults(t *testing.T) {
	n := 0
	for _, a := range changes() {
		for _, b := range changes() {
			if d := filled(t); a.do(d) && b.do(d) {
				told(t, d)
				n++
			}
		}
	}
	if n < 1500 {
		t.Errorf("%d pairs", n)
	}
}

// What is told last stands first here: each is told ahead of those above it.
func TestAhead(t *testing.T) {
	d := filled(t)
	add := func(name string, n int, of func(int) []api.Value) func() {
		return func() { adding(name, n, of, api.Fault{}).do(d) }
	}
	put := func(name string, id int, col string, v api.Value) func() {
		return func() { set(t, d, name, id, col, v) }
	}
	for _, c := range []struct {
		do   func()
		want api.Fault
	}{
		{add("sale", 1, one(num(9), num(9), null(), null(), null(), null())), fault(api.ErrNull, "sale", 7, "nr")},
		{put("sale", 7, "b", null()), fault(api.ErrNull, "sale", 7, "b")},
		{put("sale", 6, "what", text("a")), fault(api.ErrDep, "sale", 6, "what")},
		{put("sale", 4, "b", num(0)), fault(api.ErrDep, "sale", 4, "note")},
		{put("sale", 4, "n", num(4)), fault(api.ErrDep, "sale", 4, "n")},
		{put("sale", 4, "b", num(99)), fault(api.ErrRef, "sale", 4, "b")},
		{put("sale", 4, "a", num(99)), fault(api.ErrRef, "sale", 4, "a")},
		{put("sale", 4, "nr", null()), fault(api.ErrNull, "sale", 4, "nr")},
		{put("sale", 3, "a", num(99)), fault(api.ErrRef, "sale", 3, "a")},
		{add("sale", 35, func(i int) []api.Value {
			return row(null(), null(), word(i), null(), null(), word(i))
		}), fault(api.ErrRef, "sale", 3, "a")},
		{add("sale", 4, func(i int) []api.Value { return row(null(), null(), null(), null(), null(), word(50+i)) }),
			fault(api.ErrLimit, "sale", 0, "note")},
		{add("sale", 4, func(i int) []api.Value { return row(null(), null(), word(50+i), null(), null(), null()) }),
			fault(api.ErrLimit, "sale", 0, "what")},
		{add("sale", 16, one(make([]api.Value, 6)...)), fault(api.ErrLimit, "sale", 0, "")},
		{put("store", 5, "post", num(1)), fault(api.ErrDep, "store", 5, "zone")},
		{put("store", 5, "town", text("p")), fault(api.ErrDep, "store", 5, "zone")},
		{put("store", 5, "post", num(2)), fault(api.ErrDep, "store", 5, "post")},
		{put("store", 5, "zone", text("y")), fault(api.ErrRef, "store", 5, "zone")},
		{put("store", 5, "id", num(10)), fault(api.ErrKey, "store", 5, "id")},
		{put("store", 5, "town", null()), fault(api.ErrNull, "store", 5, "town")},
		{put("store", 5, "id", null()), fault(api.ErrNull, "store", 5, "id")},
		{put("store", 3, "zone", text("y")), fault(api.ErrRef, "store", 3, "zone")},
		{add("store", 41, func(i int) []api.Value { return row(null(), null(), word(i), null()) }),
			fault(api.ErrLimit, "store", 0, "town")},
		{add("store", 41, func(i int) []api.Value { return row(null(), word(i), null(), null()) }),
			fault(api.ErrLimit, "store", 0, "")},
		{put("zone", 1, "name", text("z")), fault(api.ErrKey, "zone", 1, "name")},
		{put("zone", 0, "size", null()), fault(api.ErrNull, "zone", 0, "size")},
	} {
		c.do()
		is(t, d, c.want)
		told(t, d)
	}
}

// So many rows and no more: those that are gone do not count, nor do numbers.
func TestHowManyRows(t *testing.T) {
	for _, gone := range []int{0, 1, 64, 65, 200, 1000} {
		d := made(t, star()[0])
		for i := range gone {
			remove(t, d, "zone", insert(t, d, "zone", num(1), word(i)))
		}
		for i := range 130 {
			want := api.Fault{}
			if i > 64 {
				want = fault(api.ErrLimit, "zone", 0, "")
			}
			if i > 40 && i <= 64 {
				want = fault(api.ErrLimit, "zone", 0, "name")
			}
			is(t, d, want)
			insert(t, d, "zone", num(int64(i)), word(i))
		}
		for i := range 120 {
			remove(t, d, "zone", gone+i)
		}
		is(t, d, api.Fault{})
		set(t, d, "zone", gone+129, "size", null())
		is(t, d, fault(api.ErrNull, "zone", gone+129, "size"))
	}
}

// loose is a table of whose rows little must hold.
func loose() api.Table {
	return api.Table{Name: "loose", Cols: []api.Col{
		{Name: "a", Kind: api.VText}, {Name: "n", Kind: api.VInt}, {Name: "b", Kind: api.VText},
	}}
}

// 64 rows may be where no column has more than 40 unlike texts: VNull is none,
// a number neither, the empty one is one.
func TestHowManyWords(t *testing.T) {
	for _, first := range []api.Value{null(), text(""), text("w0")} {
		d := made(t, loose())
		for i := range 24 {
			insert(t, d, "loose", first, num(int64(-i)), text("w"))
		}
		for i := range 40 {
			insert(t, d, "loose", word(i), num(int64(i)), word(i+40))
			told(t, d)
		}
		want := fault(api.ErrLimit, "loose", 0, "b")
		if first == text("") {
			want.Col = "a"
		}
		is(t, d, want)
		set(t, d, "loose", 30, "b", text("w"))
		set(t, d, "loose", 63, "a", text("w0"))
		is(t, d, api.Fault{})
		insert(t, d, "loose", null(), null(), null())
		is(t, d, fault(api.ErrLimit, "loose", 0, ""))
		remove(t, d, "loose", 0)
		is(t, d, api.Fault{})
		set(t, d, "loose", 64, "b", text("w66"))
		is(t, d, api.Fault{})
		set(t, d, "loose", 64, "b", text("new"))
		is(t, d, fault(api.ErrLimit, "loose", 0, "b"))
		remove(t, d, "loose", 64)
		is(t, d, api.Fault{})
	}
}

// A text may stand in 64 rows, and the texts of one column or table are not
// those of another.
func TestWordsOfEachColumn(t *testing.T) {
	other := loose()
	other.Name = "other"
	d := made(t, loose(), other)
	for i := range 64 {
		insert(t, d, "loose", word(i%40), null(), text("x"+strconv.Itoa(i%40)))
		insert(t, d, "other", text("y"+strconv.Itoa(i%40)), null(), word(-i%40))
		is(t, d, api.Fault{})
	}
	set(t, d, "other", 50, "b", text("w39 "))
	is(t, d, fault(api.ErrLimit, "other", 0, "b"))
	set(t, d, "loose", 50, "b", text("x-"))
	is(t, d, fault(api.ErrLimit, "loose", 0, "b"))
}

// VNull is like VNull, and like nothing else; the least and greatest values
// are values.
func TestValues(t *testing.T) {
	ints := row(null(), num(0), num(1), num(-1), num(math.MaxInt64), num(math.MinInt64), num(1<<32), num(1<<32+1))
	texts := row(null(), text(""), text(" "), text("0"), text("null"), text("x"), text("X"), text("x "), text(strings.Repeat("x", 12)))
	for kind, vals := range [][]api.Value{ints, texts} {
		cols := []api.Col{{Name: "a", Kind: 1 + kind}, {Name: "b", Kind: 1 + kind}}
		keyed := api.Table{Name: "keyed", Key: "b", Cols: cols}
		ref := api.Table{Name: "ref", Cols: []api.Col{{Name: "b", Kind: 1 + kind, To: "keyed"}}}
		bound := api.Table{Name: "bound", Cols: cols, Deps: []api.Dep{dep("a", "b")}}
		for _, v := range vals {
			for _, w := range vals {
				keysAndRefs(t, made(t, keyed, ref), v, w)
				for _, x := range vals {
					depOf(t, made(t, bound), v, w, x)
				}
			}
		}
	}
}

func keysAndRefs(t *testing.T, d *data.DB, v, w api.Value) {
	t.Helper()
	insert(t, d, "keyed", w, v)
	insert(t, d, "ref", w)
	want := api.Fault{}
	if v == null() {
		want = fault(api.ErrNull, "keyed", 0, "b")
	} else if w != null() && v != w {
		want = fault(api.ErrRef, "ref", 0, "b")
	}
	is(t, d, want)
	insert(t, d, "keyed", v, w)
	switch {
	case v == null():
	case w == null():
		want = fault(api.ErrNull, "keyed", 1, "b")
	case v == w:
		want = fault(api.ErrKey, "keyed", 1, "b")
	default:
		want = api.Fault{}
	}
	is(t, d, want)
}

func depOf(t *testing.T, d *data.DB, v, w, x api.Value) {
	t.Helper()
	for _, right := range row(v, v, w) {
		insert(t, d, "bound", right, x)
	}
	want := api.Fault{}
	if v != w {
		want = fault(api.ErrDep, "bound", 2, "a")
	}
	is(t, d, want)
	set(t, d, "bound", 2, "b", v)
	if v != x {
		want = api.Fault{}
	}
	is(t, d, want)
}

// Any lesser row counts, be it near or far, and no other.
func TestLesserRows(t *testing.T) {
	form := api.Table{Name: "t", Key: "k", Cols: []api.Col{
		{Name: "k", Kind: api.VInt}, {Name: "a", Kind: api.VInt}, {Name: "b", Kind: api.VInt},
	}, Deps: []api.Dep{dep("b", "a")}}
	for i := range 64 {
		for j := range i {
			d := made(t, form)
			for k := range 64 {
				insert(t, d, "t", num(int64(k)), num(int64(k)), num(int64(k/2)))
			}
			set(t, d, "t", j, "a", num(int64(i)))
			want := api.Fault{}
			if i/2 != j/2 {
				want = fault(api.ErrDep, "t", i, "b")
			}
			is(t, d, want)
			set(t, d, "t", i, "k", num(int64(j)))
			is(t, d, fault(api.ErrKey, "t", i, "k"))
			remove(t, d, "t", j)
			is(t, d, api.Fault{})
		}
	}
}

// All tables of three rows with few values.
func TestAllSmallTables(t *testing.T) {
	keyed := api.Table{Name: "keyed", Key: "k", Cols: []api.Col{
		{Name: "a", Kind: api.VInt}, {Name: "k", Kind: api.VInt},
	}, Deps: []api.Dep{dep("k", "a"), dep("a", "k")}}
	ref := api.Table{Name: "ref", Cols: []api.Col{
		{Name: "a", Kind: api.VInt, To: "keyed"}, {Name: "b", Kind: api.VInt}, {Name: "c", Kind: api.VInt, Must: true},
	}, Deps: []api.Dep{dep("c", "b", "a"), dep("b", "c")}}
	vals := row(null(), num(0), num(1))
	for n := range 3 * 3 * 3 * 3 * 3 * 3 {
		d := made(t, keyed)
		for range 3 {
			insert(t, d, "keyed", vals[n%3], vals[n/3%3])
			told(t, d)
			n /= 9
		}
	}
	for n := range 2 * 27 * 27 * 27 {
		d := made(t, keyed, ref)
		insert(t, d, "keyed", null(), vals[1+n%2])
		n /= 2
		for range 3 {
			insert(t, d, "ref", vals[n%3], vals[n/3%3], vals[n/9%3])
			n /= 27
		}
		told(t, d)
	}
}

// A key is named by its value, in the Key's column alone, in the To's table
// alone, whatever numbers the rows have.
func TestWhatIsNamed(t *testing.T) {
	keyed := func(name string) api.Table {
		return api.Table{Name: name, Key: "k", Cols: []api.Col{{Name: "a", Kind: api.VInt}, {Name: "k", Kind: api.VInt}}}
	}
	two := api.Table{Name: "a", Key: "k", Cols: []api.Col{
		{Name: "k", Kind: api.VInt, To: "k"}, {Name: "a", Kind: api.VInt, To: "b"}, {Name: "b", Kind: api.VInt, To: "k"},
	}}
	d := made(t, keyed("b"), keyed("k"), two)
	insert(t, d, "b", num(5), num(6))
	insert(t, d, "k", num(7), num(8))
	insert(t, d, "k", null(), num(9))
	id := insert(t, d, "a", num(8), num(6), num(9))
	is(t, d, api.Fault{})
	for v := range int64(11) {
		for _, c := range []struct {
			col  string
			good []int64
		}{{"k", []int64{8, 9}}, {"a", []int64{6}}, {"b", []int64{8, 9}}} {
			was, _ := d.Table("a").Get(id, c.col)
			set(t, d, "a", id, c.col, num(v))
			want := fault(api.ErrRef, "a", id, c.col)
			if slices.Contains(c.good, v) {
				want = api.Fault{}
			}
			is(t, d, want)
			set(t, d, "a", id, c.col, was)
		}
	}
	insert(t, d, "a", num(9), null(), null())
	is(t, d, api.Fault{})
	remove(t, d, "k", 0)
	is(t, d, fault(api.ErrRef, "a", 0, "k"))
	insert(t, d, "k", null(), num(8))
	is(t, d, api.Fault{})
}

// Only what a form asks is asked.
func TestNothingElseIsAsked(t *testing.T) {
	d := made(t, loose())
	for range 3 {
		insert(t, d, "loose", null(), null(), null())
		insert(t, d, "loose", text("a"), num(1), null())
		insert(t, d, "loose", text("a"), num(2), text("b"))
		insert(t, d, "loose", text("a"), num(1), text("c"))
	}
	is(t, d, api.Fault{})
	d = made(t, api.Table{Name: "t", Key: "k", Cols: []api.Col{{Name: "k", Kind: api.VInt}, {Name: "n", Kind: api.VInt}}})
	insert(t, d, "t", num(1), num(5))
	insert(t, d, "t", num(5), num(5))
	insert(t, d, "t", num(0), null())
	is(t, d, api.Fault{})
}

// Eight tables, each as full as may be; what is wrong with one is told with
// its own name and number.
func TestFullTables(t *testing.T) {
	var tables []api.Table
	for i, name := range []string{"h", "a", "g", "b", "f", "c", "e", "d"} {
		form := star()[1]
		form.Name, form.Cols[1].To = name, ""
		if i > 0 {
			form.Cols = append(form.Cols, api.Col{Name: "up", Kind: api.VInt, To: tables[i-1].Name})
		}
		tables = append(tables, form)
	}
	d := made(t, tables...)
	for i, form := range tables {
		for k := range 64 {
			vals := row(num(int64(k)), null(), word(k%40), num(int64(k%40)), num(int64(k)))
			insert(t, d, form.Name, vals[:len(form.Cols)]...)
		}
		if i%2 == 1 {
			remove(t, d, form.Name, 63)
			insert(t, d, form.Name, num(63), null(), word(0), num(0), null())
		}
	}
	is(t, d, api.Fault{})
	for i := 7; i > 0; i-- {
		last := 63 + i%2
		set(t, d, tables[i].Name, last, "up", num(64))
		is(t, d, fault(api.ErrRef, tables[i].Name, last, "up"))
		set(t, d, tables[i].Name, last, "id", num(62))
		is(t, d, fault(api.ErrKey, tables[i].Name, last, "id"))
	}
}

// A row's number is told, not its place.
func TestGreatNumbers(t *testing.T) {
	d := made(t, star()[:2]...)
	for _, n := range []int{100, 5000, 65536} {
		for d.Table("store").Next() < n-2 {
			remove(t, d, "store", insert(t, d, "store", null(), text("none"), null(), null()))
		}
		insert(t, d, "store", num(int64(n)), null(), text("a"), num(1))
		is(t, d, api.Fault{})
		insert(t, d, "store", num(int64(n)), null(), text("a"), num(1))
		is(t, d, fault(api.ErrKey, "store", n-1, "id"))
		set(t, d, "store", n-1, "id", num(0))
		set(t, d, "store", n-1, "post", num(2))
		is(t, d, fault(api.ErrDep, "store", n-1, "post"))
		remove(t, d, "store", n-1)
		is(t, d, api.Fault{})
	}
	for d.Table("zone").Next() < 65536 {
		insert(t, d, "zone", null(), null())
	}
	is(t, d, fault(api.ErrLimit, "zone", 0, ""))
}

// A table that the DB's schema was told of is a table of the DB.
func TestTableOfTheSchema(t *testing.T) {
	d := data.New()
	d.Schema().Add(star()[0])
	is(t, d, api.Fault{})
	insert(t, d, "zone", num(1), text("a"))
	insert(t, d, "zone", num(1), null())
	is(t, d, fault(api.ErrNull, "zone", 1, "name"))
	d.Schema().Add(star()[1])
	is(t, d, fault(api.ErrNull, "zone", 1, "name"))
	set(t, d, "zone", 1, "name", text("b"))
	is(t, d, api.Fault{})
	insert(t, d, "store", num(1), text("c"), text("a"), num(1))
	is(t, d, fault(api.ErrRef, "store", 0, "zone"))
}

// next is a plain row of numbers that look mixed, from 0 to below below.
func next(x *uint32, below int) int {
	*x = *x*1664525 + 1013904223
	return int(*x>>8) % below
}

// some is a value of the kind, most often one that may stand in the column.
func some(r *uint32, d *data.DB, c api.Col) api.Value {
	switch n := next(r, 40); {
	case n == 0 || n < 8 && !c.Must && c.To != "":
		return null()
	case n > 2 && c.To != "":
		to := listed(d, c.To)
		if len(to.rows) > 0 {
			return to.rows[next(r, len(to.rows))][to.col(to.form.Key)]
		}
	}
	if c.Kind == api.VInt {
		return num(int64(next(r, 90)))
	}
	return word(next(r, 60))
}

// mixed does n changes of rows, most often back, if they make something wrong.
func mixed(t *testing.T, r *uint32, d *data.DB, n int, count map[api.Errno]int) {
	names := d.Schema().Names()
	for range n {
		name := names[next(r, len(names))]
		l := listed(d, name)
		before := d.Copy()
		do := next(r, 10)
		switch {
		case do < 5 || len(l.rows) == 0:
			var vals []api.Value
			for _, c := range l.form.Cols {
				vals = append(vals, some(r, d, c))
			}
			insert(t, d, name, vals...)
		case do < 6:
			remove(t, d, name, l.ids[next(r, len(l.ids))])
		default:
			c := l.form.Cols[next(r, len(l.form.Cols))]
			set(t, d, name, l.ids[next(r, len(l.ids))], c.Name, some(r, d, c))
		}
		f := told(t, d)
		count[f.Err]++
		if f.Err != api.OK && next(r, 8) > 0 {
			d = before
		}
	}
}

func TestManyMixed(t *testing.T) {
	r, count := uint32(1), map[api.Errno]int{}
	for range 12 {
		mixed(t, &r, filled(t), 150, count)
	}
	for _, err := range []api.Errno{api.OK, api.ErrNull, api.ErrKey, api.ErrRef, api.ErrDep} {
		if count[err] < 20 {
			t.Errorf("%d mixed DBs of %d", count[err], err)
		}
	}
}

// Check changes nothing, so that it tells again what it told, and a DB of
// which it was asked is like one of which it was not.
func TestAskingChangesNothing(t *testing.T) {
	for _, c := range changes() {
		d := filled(t)
		c.do(d)
		other := d.Copy()
		for range 3 {
			is(t, d, c.want)
		}
		for _, name := range other.Schema().Names() {
			if x, y := listed(d, name), listed(other, name); !slices.EqualFunc(x.rows, y.rows, slices.Equal) || !slices.Equal(x.ids, y.ids) {
				t.Fatalf("P0.5: %s: %v, not %v", name, x, y)
			}
			if d.Table(name).Next() != other.Table(name).Next() {
				t.Fatalf("P0.5: Next of %s: %d", name, d.Table(name).Next())
			}
		}
		is(t, other, c.want)
	}
}

// What is wrong is told no more when it is mended, and again when it is back.
func TestMended(t *testing.T) {
	d := filled(t)
	for range 3 {
		set(t, d, "sale", 4, "n", num(6))
		is(t, d, fault(api.ErrDep, "sale", 4, "n"))
		set(t, d, "sale", 2, "n", num(6))
		is(t, d, api.Fault{})
		set(t, d, "sale", 2, "n", num(5))
		is(t, d, fault(api.ErrDep, "sale", 4, "n"))
		set(t, d, "sale", 4, "n", num(5))
		is(t, d, api.Fault{})
	}
}
