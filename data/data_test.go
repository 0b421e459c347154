package data_test

import (
	"math"
	"slices"
	"strconv"
	"strings"
	"testing"

	"asterism/api"
	"asterism/data"
	"asterism/path"
	"asterism/schema"
)

func null() api.Value { return api.Value{} }

func num(n int64) api.Value { return api.Value{Kind: api.VInt, N: n} }

func text(s string) api.Value { return api.Value{Kind: api.VText, S: s} }

func row(vals ...api.Value) []api.Value { return vals }

// star has keys of both kinds (zone's stands behind, and is a text), ways of
// four names, two ways to one table (day), and a table without a Key (loose),
// of a name that is a column's too.
func star() []api.Table {
	return []api.Table{
		{Name: "zone", Key: "name", Cols: []api.Col{
			{Name: "size", Kind: api.VInt}, {Name: "name", Kind: api.VText},
		}},
		{Name: "region", Key: "id", Cols: []api.Col{
			{Name: "zone", Kind: api.VText, To: "zone"}, {Name: "id", Kind: api.VInt},
		}, Deps: []api.Dep{{Left: []string{"zone"}, Right: "id"}}},
		{Name: "store", Key: "id", Cols: []api.Col{
			{Name: "id", Kind: api.VInt}, {Name: "region", Kind: api.VInt, Must: true, To: "region"},
		}},
		{Name: "day", Key: "no", Cols: []api.Col{
			{Name: "year", Kind: api.VInt}, {Name: "no", Kind: api.VInt},
		}},
		{Name: "sale", Key: "id", Cols: []api.Col{
			{Name: "due", Kind: api.VInt, To: "day"}, {Name: "store", Kind: api.VInt, To: "store"},
			{Name: "day", Kind: api.VInt, To: "day"}, {Name: "what", Kind: api.VText},
			{Name: "id", Kind: api.VInt},
		}, Deps: []api.Dep{{Left: []string{"due", "what"}, Right: "day"}, {Left: []string{"what"}, Right: "store"}}},
		{Name: "loose", Cols: []api.Col{
			{Name: "store", Kind: api.VInt, To: "store"}, {Name: "n", Kind: api.VInt},
		}},
	}
}

// list is a table as a list of rows.
type list struct {
	form api.Table
	rows map[int][]api.Value
	next int
}

func (l *list) col(name string) int {
	return slices.IndexFunc(l.form.Cols, func(c api.Col) bool { return c.Name == name })
}

// model is a DB as lists of rows: what the chapter says of it, said plainly.
type model struct {
	schema *schema.Schema
	tables []*list
}

func newModel() *model { return &model{schema: schema.New()} }

func (m *model) add(t api.Table) api.Errno {
	err := m.schema.Add(t)
	if err == api.OK {
		form, _ := m.schema.Find(t.Name)
		m.tables = append(m.tables, &list{form: form, rows: map[int][]api.Value{}})
	}
	return err
}

func (m *model) table(name string) *list {
	for _, l := range m.tables {
		if l.form.Name == name {
			return l
		}
	}
	return nil
}

func (m *model) byKey(name string, v api.Value) (int, bool) {
	l := m.table(name)
	if l == nil || l.form.Key == "" || v.Kind == api.VNull {
		return 0, false
	}
	for id := range l.next {
		if vals, ok := l.rows[id]; ok && vals[l.col(l.form.Key)] == v {
			return id, true
		}
	}
	return 0, false
}

func (m *model) value(name string, id int, p api.Path) (api.Value, bool) {
	l := m.table(name)
	if l == nil || l.rows[id] == nil || !m.leads(name, p) {
		return null(), false
	}
	v := l.rows[id][l.col(p[0])]
	if len(p) == 1 {
		return v, true
	}
	to := l.form.Cols[l.col(p[0])].To
	next, ok := m.byKey(to, v)
	if !ok {
		return null(), true
	}
	return m.value(to, next, p[1:])
}

// leads asks whether there is such a way, which has at most four names.
func (m *model) leads(name string, p api.Path) bool {
	l := m.table(name)
	if l == nil || len(p) == 0 || len(p) > 4 || l.col(p[0]) < 0 {
		return false
	}
	return len(p) == 1 || m.leads(l.form.Cols[l.col(p[0])].To, p[1:])
}

func (m *model) copy() *model {
	own := newModel()
	for _, l := range m.tables {
		own.add(l.form)
		other := own.table(l.form.Name)
		other.next = l.next
		for id, vals := range l.rows {
			other.rows[id] = slices.Clone(vals)
		}
	}
	return own
}

// pair is a DB and what it must be like.
type pair struct {
	d *data.DB
	m *model
}

func made(t *testing.T, tables []api.Table) pair {
	t.Helper()
	x := pair{data.New(), newModel()}
	for _, form := range tables {
		x.add(t, form, api.OK)
	}
	return x
}

func (x pair) add(t *testing.T, form api.Table, want api.Errno) {
	t.Helper()
	if err := x.m.add(form); err != want {
		t.Fatalf("schema.Add(%.200v): %v, not %v", form, err, want)
	}
	if err := x.d.Add(form); err != want {
		t.Fatalf("P12.1: Add(%.200v): %v, not %v", form, err, want)
	}
}

func (x pair) insert(t *testing.T, name string, vals ...api.Value) {
	t.Helper()
	l := x.m.table(name)
	if id, err := x.d.Table(name).Insert(vals); id != l.next || err != api.OK {
		t.Fatalf("P12.1: Insert(%v) of Table(%q): %d, %v, not %d", vals, name, id, err, l.next)
	}
	l.rows[l.next] = slices.Clone(vals)
	l.next++
}

func (x pair) remove(t *testing.T, name string, id int) {
	t.Helper()
	l := x.m.table(name)
	_, there := l.rows[id]
	delete(l.rows, id)
	if got := x.d.Table(name).Delete(id); got != there {
		t.Fatalf("P12.1: Delete(%d) of Table(%q): %v", id, name, got)
	}
}

func (x pair) set(t *testing.T, name string, id int, col string, v api.Value) {
	t.Helper()
	l := x.m.table(name)
	want := api.ErrNone
	if vals, ok := l.rows[id]; ok {
		vals[l.col(col)] = v
		want = api.OK
	}
	if err := x.d.Table(name).Set(id, col, v); err != want {
		t.Fatalf("P12.1: Set(%d, %q, %v) of Table(%q): %v, not %v", id, col, v, name, err, want)
	}
}

func (x pair) copy() pair { return pair{x.d.Copy(), x.m.copy()} }

// same holds all that a DB tells against the model.
func (x pair) same(t *testing.T) {
	t.Helper()
	names := x.m.schema.Names()
	if got := x.d.Schema().Names(); !slices.Equal(got, names) {
		t.Fatalf("P12.1: Names of Schema: %v, not %v", got, names)
	}
	for _, name := range names {
		x.tableIs(t, name)
	}
	if got := x.d.Table("none"); got != nil {
		t.Fatalf("P12.1: Table of none: %v", got)
	}
	for _, name := range append(names, "none", "") {
		x.keysAre(t, name)
		for _, p := range ways() {
			x.valuesAre(t, name, p)
		}
	}
}

func (x pair) tableIs(t *testing.T, name string) {
	t.Helper()
	l, rows := x.m.table(name), x.d.Table(name)
	if rows == nil || x.d.Table(name) != rows {
		t.Fatalf("P12.1: Table(%q) is not the table itself", name)
	}
	form, ok := x.d.Schema().Find(name)
	if !ok || !like(form, l.form) || !like(rows.Form(), l.form) {
		t.Fatalf("P12.1: forms of %q: %+v, %+v, not %+v", name, form, rows.Form(), l.form)
	}
	if rows.Next() != l.next || rows.Live().Count() != len(l.rows) {
		t.Fatalf("P12.1: Table(%q): Next %d, %d rows, not %d, %d", name, rows.Next(), rows.Live().Count(), l.next, len(l.rows))
	}
	for id, vals := range l.rows {
		if got, ok := rows.Row(id); !ok || !slices.Equal(got, vals) {
			t.Fatalf("P12.1: Row(%d) of Table(%q): %v, %v, not %v", id, name, got, ok, vals)
		}
	}
}

func (x pair) keysAre(t *testing.T, name string) {
	t.Helper()
	for _, v := range keys() {
		want, there := x.m.byKey(name, v)
		if id, ok := x.d.ByKey(name, v); id != want || ok != there {
			t.Fatalf("P12.1: ByKey(%q, %v): %d, %v, not %d, %v", name, v, id, ok, want, there)
		}
	}
}

func (x pair) valuesAre(t *testing.T, name string, p api.Path) {
	t.Helper()
	next := 0
	if l := x.m.table(name); l != nil {
		next = l.next
	}
	for id := -1; id <= next; id++ {
		x.valueIs(t, name, id, p)
	}
	for _, id := range []int{math.MinInt, math.MaxInt, 1 << 16, 1 << 32} {
		x.valueIs(t, name, id, p)
	}
}

func (x pair) valueIs(t *testing.T, name string, id int, p api.Path) {
	t.Helper()
	want, there := x.m.value(name, id, p)
	if v, ok := x.d.Value(name, id, p); v != want || ok != there {
		t.Fatalf("P12.1: Value(%q, %d, %.80v): %v, %v, not %v, %v", name, id, p, v, ok, want, there)
	}
}

// like holds two tables' forms against each other; a nil list is like an empty
// one.
func like(a, b api.Table) bool {
	return a.Name == b.Name && a.Key == b.Key && slices.Equal(a.Cols, b.Cols) &&
		slices.EqualFunc(a.Deps, b.Deps, func(d, e api.Dep) bool {
			return d.Right == e.Right && slices.Equal(d.Left, e.Left)
		})
}

// keys are values of which some are rows' keys, and some may be none.
func keys() []api.Value {
	vals := row(null(), text(""), text("1"), text("z"), text("zz"), num(math.MaxInt64), num(math.MinInt64),
		api.Value{Kind: api.VNull, N: 1}, api.Value{Kind: api.VInt, N: 1, S: "1"}, api.Value{Kind: api.VText, N: 1, S: "z"},
		api.Value{Kind: 3, N: 1}, api.Value{Kind: -1, N: 1}, text(strings.Repeat("z", 1<<10)))
	for n := range int64(5) {
		vals = append(vals, num(n-1))
	}
	return vals
}

// ways are all that a star has from any table, and some that it has not.
func ways() []api.Path {
	all := []api.Path{
		nil, {}, {""}, {"none"}, {"id", "id"}, {"name", "size"}, {"what", "id"}, {"store", "none"}, {"store", ""},
		{"region", "zone", "name", "size"}, {"store", "region", "zone", "name", "size"}, {"store", "region", "zone", "none"},
		{"store", "sale"}, {"sale", "store"}, {"day", "no", "year"}, {"n", "id"}, {"store.id"}, make(api.Path, 1000),
	}
	s := schema.New()
	for _, form := range star() {
		s.Add(form)
	}
	for _, name := range s.Names() {
		all = append(all, path.All(s, name)...)
	}
	slices.SortFunc(all, path.Compare)
	return slices.CompactFunc(all, slices.Equal[api.Path])
}

// filled is a star with rows: keys on the way that are VNull, that name no
// row, that two rows have.
func filled(t *testing.T) pair {
	t.Helper()
	x := made(t, star())
	x.insert(t, "zone", num(7), text("z"))
	x.insert(t, "zone", num(8), text(""))
	x.insert(t, "zone", num(9), null())
	x.insert(t, "region", text("z"), num(1))
	x.insert(t, "region", text("zz"), num(2))
	x.insert(t, "region", null(), num(3))
	x.insert(t, "region", text(""), num(1))
	x.insert(t, "store", num(1), num(1))
	x.insert(t, "store", num(2), num(2))
	x.insert(t, "store", num(3), num(3))
	x.insert(t, "store", num(0), num(0))
	x.insert(t, "store", null(), num(1))
	x.insert(t, "day", num(1990), num(1))
	x.insert(t, "day", null(), num(0))
	for n := range int64(6) {
		x.insert(t, "sale", num(1-n%2), num(n), num(n%3), text("w"), num(n))
		x.insert(t, "loose", num(5-n), num(n))
	}
	x.insert(t, "sale", null(), null(), null(), null(), null())
	return x
}

func TestNew(t *testing.T) {
	d := data.New()
	if d == nil || d.Schema() == nil || len(d.Schema().Names()) != 0 || d.Table("") != nil {
		t.Fatal("P12.1: New is not a DB of no tables")
	}
	if e := data.New(); e == d || e.Schema() == d.Schema() {
		t.Error("P12.1: two News are one DB")
	}
	pair{d, newModel()}.same(t)
}

func TestAddIsAsSchemas(t *testing.T) {
	long := strings.Repeat("x", 1<<20)
	id := []api.Col{{Name: "id", Kind: api.VInt}}
	x := made(t, nil)
	for _, c := range []struct {
		form api.Table
		want api.Errno
	}{
		{api.Table{}, api.ErrLimit},
		{api.Table{Name: "a"}, api.ErrLimit},
		{api.Table{Name: "a", Cols: make([]api.Col, 7)}, api.ErrLimit},
		{api.Table{Name: "a", Cols: id, Deps: make([]api.Dep, 4)}, api.ErrLimit},
		{api.Table{Name: "", Cols: id}, api.ErrName},
		{api.Table{Name: "by", Cols: id}, api.ErrName},
		{api.Table{Name: long, Cols: id}, api.ErrName},
		{api.Table{Name: "a", Cols: id, Key: "b"}, api.ErrName},
		{api.Table{Name: "a", Cols: id, Deps: make([]api.Dep, 1)}, api.ErrName},
		{api.Table{Name: "a", Cols: []api.Col{{Name: "b"}}}, api.ErrType},
		{api.Table{Name: "a", Cols: []api.Col{{Name: "b", Kind: api.VInt, To: "a"}}}, api.ErrName},
		{api.Table{Name: "a", Cols: id, Key: "id"}, api.OK},
		{api.Table{Name: "a", Cols: id}, api.ErrName},
		{api.Table{Name: "b", Cols: id}, api.OK},
		{api.Table{Name: "c", Cols: []api.Col{{Name: "b", Kind: api.VInt, To: "b"}}}, api.ErrRef},
		{api.Table{Name: "c", Cols: []api.Col{{Name: "b", Kind: api.VText, To: "a"}}}, api.ErrType},
		{api.Table{Name: "c", Cols: []api.Col{{Name: "b", Kind: api.VInt, To: "a"}}}, api.OK},
	} {
		x.add(t, c.form, c.want)
		x.same(t)
		if c.want != api.OK && x.m.table(c.form.Name) == nil && x.d.Table(c.form.Name) != nil {
			t.Errorf("P12.1: Add(%.200v) is %v, but the table is there", c.form, c.want)
		}
	}
	for i := range 5 {
		x.add(t, api.Table{Name: "t" + strconv.Itoa(i), Cols: id}, api.OK)
	}
	x.add(t, api.Table{Name: "t5", Cols: id}, api.ErrLimit)
	x.add(t, api.Table{Name: "a", Cols: id}, api.ErrLimit)
	x.same(t)
}

func TestAddHasNoRows(t *testing.T) {
	x := made(t, nil)
	for _, form := range star() {
		x.add(t, form, api.OK)
		if rows := x.d.Table(form.Name); rows == nil || rows.Next() != 0 || rows.Live().Count() != 0 {
			t.Errorf("P12.1: %q has rows as it is added", form.Name)
		}
		x.same(t)
	}
}

// A table that is refused, as another has its name, changes nothing of that.
func TestAddAgain(t *testing.T) {
	x := filled(t)
	for _, form := range star() {
		rows := x.d.Table(form.Name)
		x.add(t, form, api.ErrName)
		x.add(t, api.Table{Name: form.Name, Cols: []api.Col{{Name: "other", Kind: api.VText}}}, api.ErrName)
		if x.d.Table(form.Name) != rows {
			t.Errorf("P12.1: Table(%q) is another one behind an Add that was refused", form.Name)
		}
	}
	x.same(t)
}

// A table that is added behind the rows of the others may lead to these.
func TestAddBehindRows(t *testing.T) {
	x := filled(t)
	x.add(t, api.Table{Name: "more", Key: "store", Cols: []api.Col{{Name: "store", Kind: api.VInt, To: "store"}}}, api.OK)
	x.same(t)
	x.insert(t, "more", num(1))
	x.insert(t, "more", num(4))
	x.same(t)
	if v, ok := x.d.Value("more", 0, api.Path{"store", "region", "zone", "size"}); v != num(7) || !ok {
		t.Errorf("P12.1: Value of a table added last: %v, %v", v, ok)
	}
}

func TestTableIsItself(t *testing.T) {
	x := filled(t)
	for _, form := range star() {
		if x.d.Table(form.Name) != x.d.Table(form.Name) {
			t.Errorf("P12.1: Table(%q) is not the table itself", form.Name)
		}
	}
	zones := x.d.Table("zone")
	if _, err := zones.Insert(row(num(5), text("zz"))); err != api.OK {
		t.Fatal(err)
	}
	if id, ok := x.d.ByKey("zone", text("zz")); id != 3 || !ok {
		t.Errorf("P12.1: a row that went into the table itself: ByKey %d, %v", id, ok)
	}
	p := api.Path{"store", "region", "zone", "size"}
	if v, ok := x.d.Value("sale", 2, p); v != num(5) || !ok {
		t.Errorf("P12.1: a row that went into the table itself: Value %v, %v", v, ok)
	}
	zones.Set(3, "size", num(6))
	if v, ok := x.d.Value("sale", 2, p); v != num(6) || !ok {
		t.Errorf("P12.1: a row that was set in the table itself: Value %v, %v", v, ok)
	}
	zones.Delete(3)
	if v, ok := x.d.Value("sale", 2, p); v != null() || !ok {
		t.Errorf("P12.1: a row that went out of the table itself: Value %v, %v", v, ok)
	}
}

func TestTableOfNone(t *testing.T) {
	x := filled(t)
	for _, name := range []string{"", "none", "Zone", "zone ", "zon", "id", "zone\x00", strings.Repeat("z", 1<<20)} {
		if x.d.Table(name) != nil {
			t.Errorf("P12.1: Table(%.40q) is none, but there it is", name)
		}
		if id, ok := x.d.ByKey(name, num(1)); id != 0 || ok {
			t.Errorf("P12.1: ByKey(%.40q) of no table: %d, %v", name, id, ok)
		}
		if v, ok := x.d.Value(name, 0, api.Path{"id"}); v != null() || ok {
			t.Errorf("P12.1: Value(%.40q) of no table: %v, %v", name, v, ok)
		}
	}
	x.same(t)
}

// What is done to the schema that a DB answers is done to the DB's own (P0.3).
func TestSchemaIsItself(t *testing.T) {
	x := filled(t)
	if x.d.Schema() != x.d.Schema() {
		t.Fatal("P12.1: Schema is another one each time")
	}
	more := api.Table{Name: "more", Key: "store", Cols: []api.Col{{Name: "store", Kind: api.VInt, To: "store"}}}
	if err := x.d.Schema().Add(more); err != api.OK || x.m.add(more) != api.OK {
		t.Fatal(err)
	}
	early := x.copy()
	if id, ok := x.d.ByKey("more", num(1)); id != 0 || ok {
		t.Errorf("P12.1: ByKey of a table that the schema alone was told of: %d, %v", id, ok)
	}
	if v, ok := x.d.Value("more", 0, api.Path{"store", "id"}); v != null() || ok {
		t.Errorf("P12.1: Value of a table that the schema alone was told of: %v, %v", v, ok)
	}
	x.add(t, more, api.ErrName)
	x.same(t)
	x.insert(t, "more", num(2))
	x.same(t)
	early.same(t)
	early.insert(t, "more", num(3))
	early.same(t)
	x.same(t)
}

func TestByKey(t *testing.T) {
	x := made(t, star())
	x.insert(t, "day", num(1), num(2))
	x.insert(t, "day", num(2), null())
	x.insert(t, "day", num(3), num(1))
	x.insert(t, "day", num(1), num(2))
	x.insert(t, "loose", num(1), num(1))
	is := func(name string, v api.Value, want int, there bool) {
		t.Helper()
		if id, ok := x.d.ByKey(name, v); id != want || ok != there {
			t.Errorf("P12.1: ByKey(%q, %v): %d, %v, not %d, %v", name, v, id, ok, want, there)
		}
	}
	is("day", num(1), 2, true)
	is("day", num(2), 0, true) // the least of two
	is("day", num(3), 0, false)
	is("day", null(), 0, false) // though a row's key is VNull
	is("day", text("1"), 0, false)
	is("day", api.Value{Kind: api.VInt, N: 1, S: "1"}, 0, false)
	is("loose", num(1), 0, false)
	is("loose", null(), 0, false)
	is("zone", text("z"), 0, false)
	x.remove(t, "day", 0)
	is("day", num(2), 3, true)
	x.set(t, "day", 1, "no", num(2)) // a lesser row gets the key later
	is("day", num(2), 1, true)
	x.set(t, "day", 1, "no", num(1))
	is("day", num(1), 1, true)
	x.remove(t, "day", 1)
	is("day", num(1), 2, true)
	x.same(t)
}

// Keys of all kinds of edges, as they may stand in rows.
func TestByKeyEdges(t *testing.T) {
	d := data.New()
	d.Add(api.Table{Name: "n", Key: "k", Cols: []api.Col{{Name: "a", Kind: api.VInt}, {Name: "k", Kind: api.VInt}}})
	d.Add(api.Table{Name: "s", Key: "k", Cols: []api.Col{{Name: "k", Kind: api.VText}, {Name: "a", Kind: api.VText}}})
	n := row(num(0), num(-1), num(1), num(math.MinInt64), num(math.MaxInt64), num(math.MaxInt64-1))
	s := row(text(""), text(" "), text("~"), text("ab"), text("aB"), text("a"), text("0"), text(strings.Repeat("x", 12)), text(strings.Repeat("x", 11)))
	for _, v := range n {
		d.Table("n").Insert(row(num(5), v))
	}
	for _, v := range s {
		d.Table("s").Insert(row(v, text("b")))
	}
	for name, vals := range map[string][]api.Value{"n": n, "s": s} {
		for want, v := range vals {
			if id, ok := d.ByKey(name, v); id != want || !ok {
				t.Errorf("P12.1: ByKey(%q, %v): %d, %v, not %d", name, v, id, ok, want)
			}
		}
	}
	for _, v := range append(slices.Clone(s), num(5), num(2), null()) {
		if id, ok := d.ByKey("n", v); id != 0 || ok {
			t.Errorf("P12.1: ByKey(n, %v): %d, %v", v, id, ok)
		}
	}
	for _, v := range append(slices.Clone(n), text("b"), text("A"), null()) {
		if id, ok := d.ByKey("s", v); id != 0 || ok {
			t.Errorf("P12.1: ByKey(s, %v): %d, %v", v, id, ok)
		}
	}
}

func TestValue(t *testing.T) {
	x := filled(t)
	for _, c := range []struct {
		name string
		id   int
		p    string
		want api.Value
		ok   bool
	}{
		{"sale", 1, "what", text("w"), true},
		{"sale", 6, "what", null(), true},
		{"sale", 1, "store", num(1), true},
		{"sale", 4, "store", num(4), true}, // a key at the end need name no row
		{"sale", 6, "store", null(), true}, // nor be there
		{"sale", 1, "store.id", num(1), true},
		{"sale", 4, "store.id", null(), true}, // names no row
		{"sale", 6, "store.id", null(), true}, // VNull, though a store's key is
		{"sale", 1, "store.region", num(1), true},
		{"sale", 0, "store.region", num(0), true},
		{"sale", 0, "store.region.zone", null(), true},
		{"sale", 1, "store.region.zone", text("z"), true}, // of two regions the lesser
		{"sale", 1, "store.region.zone.size", num(7), true},
		{"sale", 1, "store.region.zone.name", text("z"), true},
		{"sale", 2, "store.region.zone", text("zz"), true},
		{"sale", 2, "store.region.zone.name", null(), true},
		{"sale", 3, "store.region.zone", null(), true},
		{"sale", 3, "store.region.zone.size", null(), true}, // though a zone's key is VNull
		{"sale", 0, "due.year", num(1990), true},
		{"sale", 0, "day.year", null(), true},
		{"sale", 0, "day.no", num(0), true},
		{"sale", 1, "due.no", num(0), true},
		{"loose", 4, "store.region.zone.size", num(7), true},
		{"region", 3, "zone.size", num(8), true}, // an empty text is a key too
		{"zone", 2, "size", num(9), true},
		{"zone", 2, "name", null(), true},
		{"zone", 3, "size", null(), false},
		{"zone", -1, "size", null(), false},
		{"sale", 7, "store.region", null(), false},
		{"sale", 1, "", null(), false},
		{"sale", 1, "none", null(), false},
		{"sale", 1, "what.id", null(), false},
		{"sale", 6, "what.id", null(), false}, // no way, though VNull stands ahead
		{"sale", 6, "store.none", null(), false},
		{"sale", 4, "store.id.id", null(), false},
		{"sale", 1, "store.region.zone.none", null(), false},
		{"sale", 1, "id.store", null(), false},
		{"none", 1, "store", null(), false},
		{"loose", 1, "n.id", null(), false},
	} {
		v, ok := x.d.Value(c.name, c.id, strings.Split(c.p, "."))
		if v != c.want || ok != c.ok {
			t.Errorf("P12.1: Value(%q, %d, %s): %v, %v, not %v, %v", c.name, c.id, c.p, v, ok, c.want, c.ok)
		}
	}
	x.same(t)
}

// A way has at most four names, though the tables go on.
func TestValueAtTheLimit(t *testing.T) {
	x := made(t, nil)
	for i := range api.MaxTables {
		c := api.Col{Name: "k", Kind: api.VInt}
		if i > 0 {
			c.To = "t" + strconv.Itoa(i-1)
		}
		x.add(t, api.Table{Name: "t" + strconv.Itoa(i), Key: "k", Cols: []api.Col{c}}, api.OK)
		x.insert(t, "t"+strconv.Itoa(i), num(1))
	}
	for n := range 10 {
		p := slices.Repeat(api.Path{"k"}, n)
		for i := range api.MaxTables {
			want := null()
			there := n >= 1 && n <= 4 && n-1 <= i
			if there {
				want = num(1)
			}
			if v, ok := x.d.Value("t"+strconv.Itoa(i), 0, p); v != want || ok != there {
				t.Errorf("P12.1: Value(t%d, 0, %v): %v, %v, not %v, %v", i, p, v, ok, want, there)
			}
		}
	}
}

// next is a plain row of numbers that look mixed, from 0 to below below.
func next(x *uint32, below int) int {
	*x = *x*1664525 + 1013904223
	return int(*x>>8) % below
}

// some is a value that may stand in the column, from few, so that keys meet.
func some(x *uint32, kind int) api.Value {
	if next(x, 5) == 0 {
		return null()
	}
	if kind == api.VInt {
		return num(int64(next(x, 4)))
	}
	return text([]string{"", "1", "z"}[next(x, 3)])
}

// change does one thing to a table of x that has rows, or is to have some.
func change(t *testing.T, x pair, r *uint32) {
	t.Helper()
	l := x.m.tables[next(r, len(x.m.tables))]
	name := l.form.Name
	switch c := l.form.Cols[next(r, len(l.form.Cols))]; {
	case len(l.rows) < 3 || next(r, 3) == 0 && len(l.rows) < 8:
		var vals []api.Value
		for _, c := range l.form.Cols {
			vals = append(vals, some(r, c.Kind))
		}
		x.insert(t, name, vals...)
	case next(r, 3) == 0:
		x.remove(t, name, next(r, l.next))
	default:
		x.set(t, name, next(r, l.next), c.Name, some(r, c.Kind))
	}
}

func TestManyChanges(t *testing.T) {
	r := uint32(1)
	x := made(t, star())
	for range 60 {
		for range 6 {
			change(t, x, &r)
		}
		x.same(t)
	}
}

// Copies go their own ways, of which each is held against its own model.
func TestCopy(t *testing.T) {
	r := uint32(2)
	all := []pair{filled(t)}
	for range 5 {
		c := all[next(&r, len(all))].copy()
		c.same(t)
		all = append(all, c)
		for range 20 {
			change(t, all[next(&r, len(all))], &r)
		}
		for _, x := range all {
			x.same(t)
		}
	}
	for i, x := range all {
		for _, y := range all[:i] {
			if x.d == y.d || x.d.Schema() == y.d.Schema() || x.d.Table("sale") == y.d.Table("sale") {
				t.Error("P12.1: a copy is not another one")
			}
		}
	}
}

// A copy tells the same numbers of rows, those that went too.
func TestCopyKeepsNumbers(t *testing.T) {
	x := made(t, star())
	for n := range int64(200) {
		x.insert(t, "day", num(n), num(n))
	}
	for id := range 199 {
		x.remove(t, "day", id)
	}
	c := x.copy()
	c.same(t)
	if id, ok := c.d.ByKey("day", num(199)); id != 199 || !ok {
		t.Errorf("P12.1: ByKey of a copy: %d, %v", id, ok)
	}
	c.insert(t, "day", num(1), num(1))
	c.same(t)
	x.same(t)
}

func TestCopyGoesItsOwnWay(t *testing.T) {
	one := api.Table{Name: "one", Cols: []api.Col{{Name: "a", Kind: api.VInt}}}
	two := api.Table{Name: "two", Key: "a", Cols: []api.Col{{Name: "a", Kind: api.VText}}}
	x := filled(t)
	c := x.copy()
	x.add(t, one, api.OK)
	c.same(t)
	c.add(t, two, api.OK)
	x.same(t)
	c.add(t, one, api.OK)
	c.insert(t, "one", num(1))
	x.insert(t, "one", num(2))
	c.remove(t, "sale", 0)
	c.set(t, "region", 0, "zone", null())
	x.set(t, "zone", 0, "size", num(0))
	x.same(t)
	c.same(t)
	if got := c.d.Schema().Names(); got[len(got)-2] != "two" || got[len(got)-1] != "one" {
		t.Errorf("P12.1: Names of a copy: %v", got)
	}
}

func TestNil(t *testing.T) {
	var d *data.DB
	if d.Schema() != nil || d.Table("") != nil || d.Table("a") != nil || d.Copy() != nil {
		t.Error("P12.1: Schema, Table, Copy of a nil DB are not nil")
	}
	for _, form := range append(star(), api.Table{}, api.Table{Name: "a"}) {
		if err := d.Add(form); err != api.ErrNone {
			t.Errorf("P12.1: Add of a nil DB: %v", err)
		}
	}
	for _, v := range keys() {
		if id, ok := d.ByKey("zone", v); id != 0 || ok {
			t.Errorf("P12.1: ByKey of a nil DB: %d, %v", id, ok)
		}
		if id, ok := d.ByKey("", v); id != 0 || ok {
			t.Errorf("P12.1: ByKey of a nil DB: %d, %v", id, ok)
		}
	}
	for _, p := range ways() {
		for _, name := range []string{"", "zone", "sale"} {
			if v, ok := d.Value(name, 0, p); v != null() || ok {
				t.Errorf("P12.1: Value of a nil DB: %v, %v", v, ok)
			}
		}
	}
}

// The chapter says nothing of a zero DB: it is as New is.
func TestZero(t *testing.T) {
	x := pair{new(data.DB), newModel()}
	x.same(t)
	x.copy().same(t)
	for _, form := range star() {
		x.add(t, form, api.OK)
	}
	x.insert(t, "zone", num(7), text("z"))
	x.same(t)
	x.copy().same(t)
}

// spoil writes into all that a form's lists have, spare room too.
func spoil(form api.Table) {
	for k := range form.Cols[:cap(form.Cols)] {
		form.Cols[:cap(form.Cols)][k] = api.Col{Name: "spoilt"}
	}
	for _, d := range form.Deps[:cap(form.Deps)] {
		for k := range d.Left[:cap(d.Left)] {
			d.Left[:cap(d.Left)][k] = "spoilt"
		}
	}
	for k := range form.Deps[:cap(form.Deps)] {
		form.Deps[:cap(form.Deps)][k] = api.Dep{Right: "spoilt"}
	}
}

// What goes in is neither changed nor kept (P0.3).
func TestWhatGoesIn(t *testing.T) {
	x := made(t, nil)
	for i, form := range star() {
		given := star()[i]
		given.Cols = append(given.Cols, api.Col{Name: "spare"})[:len(form.Cols)]
		x.add(t, given, api.OK)
		if !like(given, form) || given.Cols[:len(form.Cols)+1][len(form.Cols)].Name != "spare" {
			t.Errorf("P0.3: Add wrote into what it was given: %+v", given)
		}
		x.same(t)
		spoil(given)
		x.same(t)
	}
	x = filled(t)
	for _, p := range ways() {
		given := append(slices.Clone(p), "spare", "spare")[:len(p)]
		x.d.Value("sale", 1, given)
		if !slices.Equal(given, p) || given[:len(p)+2][len(p)] != "spare" || given[:len(p)+2][len(p)+1] != "spare" {
			t.Fatalf("P0.3: Value wrote into the way: %v", given)
		}
	}
}

// What comes out is new memory (P0.3), but for the schema and the tables.
func TestWhatComesOut(t *testing.T) {
	x := filled(t)
	c := x.copy()
	for _, d := range []*data.DB{x.d, c.d} {
		for _, name := range d.Schema().Names() {
			form, _ := d.Schema().Find(name)
			spoil(form)
			spoil(d.Table(name).Form())
			vals, _ := d.Table(name).Row(0)
			for k := range vals {
				vals[k] = text("spoilt")
			}
		}
		names := d.Schema().Names()
		for k := range names {
			names[k] = "spoilt"
		}
		x.same(t)
		c.same(t)
	}
}

// Asking leaves all as it is: what is told is told again (P0.5).
func TestAskingChangesNothing(t *testing.T) {
	x := filled(t)
	for range 3 {
		x.same(t)
		x.copy()
	}
}

// As many rows as there may be.
func TestManyRows(t *testing.T) {
	x := data.New()
	for _, form := range star() {
		x.Add(form)
	}
	days := x.Table("day")
	for n := range int64(1 << 16) {
		if _, err := days.Insert(row(num(-n), num(n/2))); err != api.OK {
			t.Fatal(err)
		}
	}
	x.Table("sale").Insert(row(num(1<<15-1), null(), num(1<<15), null(), null()))
	for _, d := range []*data.DB{x, x.Copy()} {
		if id, ok := d.ByKey("day", num(1<<15-1)); id != 1<<16-2 || !ok {
			t.Errorf("P12.1: ByKey: %d, %v", id, ok)
		}
		if v, ok := d.Value("sale", 0, api.Path{"due", "year"}); v != num(2-1<<16) || !ok {
			t.Errorf("P12.1: Value: %v, %v", v, ok)
		}
		if v, ok := d.Value("sale", 0, api.Path{"day", "year"}); v != null() || !ok {
			t.Errorf("P12.1: Value: %v, %v", v, ok)
		}
		if id, ok := d.ByKey("day", num(1<<15)); id != 0 || ok {
			t.Errorf("P12.1: ByKey: %d, %v", id, ok)
		}
		if d.Table("day").Next() != 1<<16 {
			t.Errorf("P12.1: Next: %d", d.Table("day").Next())
		}
	}
}

// A table's name is one thing, a column's another.
func TestLikeNames(t *testing.T) {
	d := data.New()
	form := api.Table{Name: "a", Key: "a", Cols: []api.Col{{Name: "a", Kind: api.VInt}}}
	d.Add(form)
	form = api.Table{Name: "b", Key: "b", Cols: []api.Col{{Name: "b", Kind: api.VInt}, {Name: "a", Kind: api.VInt, To: "a"}}}
	d.Add(form)
	d.Table("b").Insert(row(num(1), num(2)))
	d.Table("a").Insert(row(num(1)))
	d.Table("a").Insert(row(num(2)))
	if id, ok := d.ByKey("b", num(2)); id != 0 || ok {
		t.Errorf("P12.1: ByKey of another column than the Key: %d, %v", id, ok)
	}
	if v, ok := d.Value("b", 0, api.Path{"a", "a"}); v != num(2) || !ok {
		t.Errorf("P12.1: Value: %v, %v", v, ok)
	}
}
