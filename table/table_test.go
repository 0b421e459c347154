package table_test

import (
	"math"
	"reflect"
	"slices"
	"strconv"
	"strings"
	"testing"

	"asterism/api"
	"asterism/bitmap"
	"asterism/table"
)

// full is how many numbers of rows there are.
const full = 65536

func null() api.Value { return api.Value{} }

func num(n int64) api.Value { return api.Value{Kind: api.VInt, N: n} }

func text(s string) api.Value { return api.Value{Kind: api.VText, S: s} }

func row(vals ...api.Value) []api.Value { return vals }

// goods is a table with something of each kind.
func goods() api.Table {
	return api.Table{
		Name: "goods",
		Cols: []api.Col{
			{Name: "id", Kind: api.VInt, Must: true},
			{Name: "label", Kind: api.VText},
			{Name: "size", Kind: api.VInt},
			{Name: "maker", Kind: api.VText, Must: true, To: "maker"},
		},
		Key:  "id",
		Deps: []api.Dep{{Left: []string{"label", "size"}, Right: "maker"}, {Left: []string{"maker"}, Right: "size"}},
	}
}

// good is a row of goods that is like no other n's but in maker.
func good(n int) []api.Value {
	return row(num(int64(n)), text("l"+strconv.Itoa(n)), num(int64(-n)), text("m"))
}

// mayNot has values of every way in which one may not be.
func mayNot() []api.Value {
	return []api.Value{
		{Kind: api.VNull, N: 1}, {Kind: api.VNull, S: "x"}, {Kind: api.VInt, S: "x"}, {Kind: api.VInt, N: 5, S: "5"},
		{Kind: api.VText, N: 1}, {Kind: api.VText, N: math.MinInt64, S: "x"},
		{Kind: 3}, {Kind: -1}, {Kind: math.MaxInt}, {Kind: math.MinInt},
		text(strings.Repeat("x", api.MaxText+1)), text(strings.Repeat("x", 1<<20)),
		text("it's"), text("\x1f"), text("a\x7f"), text("é"), text("\xff"),
	}
}

// takes has values that may stand in a column of the kind: the edges of those.
func takes(kind int) []api.Value {
	if kind == api.VInt {
		return row(null(), num(0), num(1), num(-1), num(math.MaxInt64), num(math.MinInt64))
	}
	return row(null(), text(""), text(" "), text("~"), text("null"), text("1"), text(strings.Repeat("x", api.MaxText)))
}

// takesNot has values that may not stand in a column of the kind.
func takesNot(kind int) []api.Value {
	return append(mayNot(), takes(api.VInt + api.VText - kind)[1:]...)
}

// list is a table as a list of rows: what the chapter says of it, said plainly.
type list struct {
	form api.Table
	rows map[int][]api.Value
	next int
}

func plain(form api.Table) *list { return &list{form: form, rows: map[int][]api.Value{}} }

func (l *list) insert(vals []api.Value) {
	l.rows[l.next] = slices.Clone(vals)
	l.next++
}

func (l *list) copy() *list {
	own := plain(l.form)
	own.next = l.next
	for id, vals := range l.rows {
		own.rows[id] = slices.Clone(vals)
	}
	return own
}

func (l *list) ids() []int {
	var ids []int
	for id := range l.next {
		if _, ok := l.rows[id]; ok {
			ids = append(ids, id)
		}
	}
	return ids
}

func (l *list) words(k int) int {
	unlike := map[string]int{}
	for _, vals := range l.rows {
		if vals[k].Kind == api.VText {
			unlike[vals[k].S]++
		}
	}
	return len(unlike)
}

// like holds two tables against each other; a nil list is like an empty one.
func like(a, b api.Table) bool {
	return a.Name == b.Name && a.Key == b.Key && slices.Equal(a.Cols, b.Cols) &&
		slices.EqualFunc(a.Deps, b.Deps, func(d, e api.Dep) bool {
			return d.Right == e.Right && slices.Equal(d.Left, e.Left)
		})
}

// noRows are numbers of no row, of a table with that Next.
func noRows(next int) []int {
	return []int{-1, next, next + 1, full, full + next, math.MinInt, math.MaxInt, next + 1<<32, -next - 1}
}

// same holds all that x tells against l.
func same(t *testing.T, x *table.Table, l *list) {
	t.Helper()
	if got := x.Form(); !like(got, l.form) {
		t.Fatalf("P11.1: Form: %+v, not %+v", got, l.form)
	}
	if got := slices.Collect(x.Live().All()); x.Next() != l.next || !slices.Equal(got, l.ids()) {
		t.Fatalf("P11.1: Next %d, Live %v, not %d, %v", x.Next(), got, l.next, l.ids())
	}
	for id := range l.next {
		rowIs(t, x, l, id)
	}
	for _, id := range noRows(l.next) {
		rowIs(t, x, l, id)
	}
	for k, c := range l.form.Cols {
		if got := x.Words(c.Name); got != l.words(k) {
			t.Fatalf("P11.1: Words(%q): %d, not %d", c.Name, got, l.words(k))
		}
	}
	if got := x.Words("none"); got != 0 {
		t.Fatalf("P11.1: Words of no column: %d", got)
	}
}

func rowIs(t *testing.T, x *table.Table, l *list, id int) {
	t.Helper()
	want, there := l.rows[id]
	if got, ok := x.Row(id); ok != there || !slices.Equal(got, want) {
		t.Fatalf("P11.1: Row(%d): %v, %v, not %v, %v", id, got, ok, want, there)
	}
	for k, c := range l.form.Cols {
		v := null()
		if there {
			v = want[k]
		}
		if got, ok := x.Get(id, c.Name); ok != there || got != v {
			t.Fatalf("P11.1: Get(%d, %q): %v, %v, not %v, %v", id, c.Name, got, ok, v, there)
		}
	}
	if got, ok := x.Get(id, "none"); ok || got != null() {
		t.Fatalf("P11.1: Get(%d) of no column: %v, %v", id, got, ok)
	}
}

// insert asks that Insert answers as the chapter says, want being its error.
func insert(t *testing.T, x *table.Table, l *list, vals []api.Value, want api.Errno) {
	t.Helper()
	id := 0
	if want == api.OK {
		id = l.next
		l.insert(vals)
	}
	if got, err := x.Insert(vals); got != id || err != want {
		t.Fatalf("P11.1: Insert(%.80v): %d, %v, not %d, %v", vals, got, err, id, want)
	}
}

func remove(t *testing.T, x *table.Table, l *list, id int) {
	t.Helper()
	_, there := l.rows[id]
	delete(l.rows, id)
	if got := x.Delete(id); got != there {
		t.Fatalf("P11.1: Delete(%d): %v", id, got)
	}
}

func set(t *testing.T, x *table.Table, l *list, id int, col string, v api.Value, want api.Errno) {
	t.Helper()
	if want == api.OK {
		k := slices.IndexFunc(l.form.Cols, func(c api.Col) bool { return c.Name == col })
		l.rows[id][k] = v
	}
	if err := x.Set(id, col, v); err != want {
		t.Fatalf("P11.1: Set(%d, %q, %.80v): %v, not %v", id, col, v, err, want)
	}
}

// filled is a table of goods with n rows, and what it is to tell.
func filled(t *testing.T, n int) (*table.Table, *list) {
	t.Helper()
	x, l := table.New(goods()), plain(goods())
	for i := range n {
		insert(t, x, l, good(i), api.OK)
	}
	return x, l
}

func TestNew(t *testing.T) {
	x, l := filled(t, 0)
	same(t, x, l)
	a, b := table.New(goods()), table.New(goods())
	if a == nil || a == b {
		t.Error("P11.1: New")
	}
}

func TestInsert(t *testing.T) {
	x, l := filled(t, 0)
	for i := range 5 {
		insert(t, x, l, good(i), api.OK)
		same(t, x, l)
	}
	insert(t, x, l, good(2), api.OK)
	insert(t, x, l, row(null(), null(), null(), null()), api.OK)
	same(t, x, l)
}

// What else is asked of a table (its Key, Must, To, Deps) is no business of
// Insert and Set.
func TestWhatIsNotAsked(t *testing.T) {
	x, l := filled(t, 2)
	insert(t, x, l, row(num(0), text("l1"), num(-1), text("none")), api.OK)
	set(t, x, l, 0, "id", null(), api.OK)
	set(t, x, l, 1, "id", num(0), api.OK)
	set(t, x, l, 1, "maker", null(), api.OK)
	set(t, x, l, 0, "label", text("l1"), api.OK)
	same(t, x, l)
}

func TestValues(t *testing.T) {
	for k, c := range goods().Cols {
		x, l := filled(t, 1)
		for _, v := range takes(c.Kind) {
			vals := good(1)
			vals[k] = v
			insert(t, x, l, vals, api.OK)
			set(t, x, l, 0, c.Name, v, api.OK)
			same(t, x, l)
		}
		for _, v := range takesNot(c.Kind) {
			vals := good(1)
			vals[k] = v
			insert(t, x, l, vals, api.ErrType)
			set(t, x, l, 0, c.Name, v, api.ErrType)
		}
		same(t, x, l)
	}
}

// As many values as columns there must be, whatever they are.
func TestInsertOfNotSoMany(t *testing.T) {
	x, l := filled(t, 1)
	for _, vals := range [][]api.Value{
		nil, {}, good(1)[:1], good(1)[:3], append(good(1), null()), append(good(1), good(1)...),
		{text("it's")}, {{Kind: 3}, {}, {}, {}, {}}, make([]api.Value, 1<<20),
	} {
		insert(t, x, l, vals, api.ErrForm)
	}
	same(t, x, l)
	insert(t, x, l, good(1), api.OK)
	same(t, x, l)
}

// No number is given twice: that of a row that is gone neither.
func TestNumbersGoOn(t *testing.T) {
	x, l := filled(t, 0)
	for i := range 10 {
		insert(t, x, l, good(i), api.OK)
		insert(t, x, l, good(i), api.OK)
		insert(t, x, l, nil, api.ErrForm)
		insert(t, x, l, row(text("a"), null(), null(), null()), api.ErrType)
		remove(t, x, l, l.next-1)
		if i%3 == 0 {
			remove(t, x, l, l.next-2)
		}
		same(t, x, l)
	}
}

func TestDelete(t *testing.T) {
	x, l := filled(t, 5)
	for _, id := range []int{2, 2, 0, 4, 3, 0, 1, 1} {
		remove(t, x, l, id)
		same(t, x, l)
	}
	insert(t, x, l, good(9), api.OK)
	same(t, x, l)
	for _, id := range append(noRows(l.next), 0, 4) {
		remove(t, x, l, id)
	}
	same(t, x, l)
}

func TestSet(t *testing.T) {
	x, l := filled(t, 3)
	for id := range 3 {
		for _, c := range goods().Cols {
			for _, v := range takes(c.Kind) {
				set(t, x, l, id, c.Name, v, api.OK)
				same(t, x, l)
			}
		}
	}
}

// Of several errors the one that the chapter names first is told.
func TestFaultsOfSet(t *testing.T) {
	x, l := filled(t, 4)
	remove(t, x, l, 1)
	values := append(takesNot(api.VInt), num(1), text("a"), null())
	for _, v := range values {
		for _, col := range []string{"id", "label", "none", "", "ID", "id ", "goods", "maker.id", strings.Repeat("x", 1<<20)} {
			for _, id := range append(noRows(4), 1) {
				set(t, x, l, id, col, v, api.ErrNone)
			}
			if col != "id" && col != "label" {
				set(t, x, l, 2, col, v, api.ErrName)
			}
		}
	}
	same(t, x, l)
}

func TestNoSuchColumn(t *testing.T) {
	x, _ := filled(t, 2)
	for _, col := range []string{"none", "", "ID", "id ", " id", "i", "goods", "id\x00", strings.Repeat("id", 1<<20)} {
		if v, ok := x.Get(1, col); ok || v != null() {
			t.Errorf("P11.1: Get(%.20q): %v, %v", col, v, ok)
		}
		if n := x.Words(col); n != 0 {
			t.Errorf("P11.1: Words(%.20q): %d", col, n)
		}
	}
}

// A text counts as long as a row that is there has it; numbers are none.
func TestWords(t *testing.T) {
	x := table.New(api.Table{Cols: []api.Col{{Name: "a", Kind: api.VText}, {Name: "b", Kind: api.VText}, {Name: "n", Kind: api.VInt}}})
	for k, step := range []struct {
		do   func() bool
		a, b int
	}{
		{func() bool { _, err := x.Insert(row(text("u"), text("u"), num(1))); return err == api.OK }, 1, 1},
		{func() bool { _, err := x.Insert(row(text("u"), text("v"), num(2))); return err == api.OK }, 1, 2},
		{func() bool { _, err := x.Insert(row(null(), text(""), num(3))); return err == api.OK }, 1, 3},
		{func() bool { return x.Delete(0) }, 1, 2},
		{func() bool { return !x.Delete(0) }, 1, 2},
		{func() bool { return x.Set(1, "a", text("w")) == api.OK }, 1, 2},
		{func() bool { return x.Set(2, "a", text("u")) == api.OK }, 2, 2},
		{func() bool { return x.Set(0, "a", text("x")) == api.ErrNone }, 2, 2},
		{func() bool { return x.Set(1, "a", num(1)) == api.ErrType }, 2, 2},
		{func() bool { return x.Set(2, "b", null()) == api.OK }, 2, 1},
		{func() bool { _, err := x.Insert(row(text("z"), text("z"), text("z"))); return err == api.ErrType }, 2, 1},
		{func() bool { return x.Delete(1) }, 1, 0},
		{func() bool { return x.Delete(2) }, 0, 0},
		{func() bool { _, err := x.Insert(row(text("z"), null(), null())); return err == api.OK }, 1, 0},
	} {
		if !step.do() || x.Words("a") != step.a || x.Words("b") != step.b || x.Words("n") != 0 {
			t.Errorf("P11.1, %d: Words %d, %d, %d, not %d, %d, 0", k, x.Words("a"), x.Words("b"), x.Words("n"), step.a, step.b)
		}
	}
}

// What Live told stays as it was.
func TestLiveStays(t *testing.T) {
	x, l := filled(t, 3)
	first := x.Live()
	remove(t, x, l, 1)
	second := x.Live()
	insert(t, x, l, good(3), api.OK)
	remove(t, x, l, 0)
	third := x.Live()
	for i := range 500 {
		insert(t, x, l, good(i), api.OK)
		remove(t, x, l, l.next-1-i%2)
	}
	for _, m := range []struct{ got, want bitmap.Map }{
		{first, bitmap.Of(0, 1, 2)}, {second, bitmap.Of(0, 2)}, {third, bitmap.Of(2, 3)},
	} {
		if !bitmap.Eq(m.got, m.want) {
			t.Errorf("P11.1: Live turned to %v, not %v", m.got.Runs(), m.want.Runs())
		}
	}
	same(t, x, l)
}

func TestCopy(t *testing.T) {
	x, l := filled(t, 6)
	remove(t, x, l, 5)
	remove(t, x, l, 2)
	set(t, x, l, 3, "label", null(), api.OK)
	y, m := x.Copy(), l.copy()
	if x == y {
		t.Fatal("P11.1: Copy answers the table itself")
	}
	same(t, y, m)
	remove(t, x, l, 0)
	insert(t, x, l, good(7), api.OK)
	set(t, x, l, 1, "label", text("x"), api.OK)
	same(t, x, l)
	same(t, y, m)
	set(t, y, m, 0, "maker", text("y"), api.OK)
	insert(t, y, m, good(8), api.OK)
	insert(t, y, m, good(9), api.OK)
	remove(t, y, m, 2)
	remove(t, y, m, 6)
	z, n := y.Copy(), m.copy()
	insert(t, z, n, good(1), api.OK)
	same(t, x, l)
	same(t, y, m)
	same(t, z, n)
}

func TestCopyOfNothing(t *testing.T) {
	x, l := filled(t, 0)
	y, m := x.Copy(), l.copy()
	same(t, y, m)
	insert(t, y, m, good(1), api.OK)
	same(t, x, l)
	same(t, y, m)
	remove(t, y, m, 0)
	z, n := y.Copy(), m.copy()
	same(t, z, n)
	insert(t, z, n, good(1), api.OK)
	same(t, z, n)
	same(t, y, m)
}

// change does one of what may be done to a table with rows of the kinds
// number and text, and to its list.
func change(t *testing.T, x *table.Table, l *list, do, id int, v api.Value) {
	t.Helper()
	_, there := l.rows[id]
	switch {
	case do == 0 && v.Kind == api.VText:
		insert(t, x, l, row(num(int64(id)), v), api.OK)
	case do == 0:
		insert(t, x, l, row(v, text("a")), api.OK)
	case do == 1:
		remove(t, x, l, id)
	case !there:
		set(t, x, l, id, "b", v, api.ErrNone)
	case v.Kind == api.VInt:
		set(t, x, l, id, "b", v, api.ErrType)
	default:
		set(t, x, l, id, "b", v, api.OK)
	}
}

func small() api.Table {
	return api.Table{Name: "t", Cols: []api.Col{{Name: "a", Kind: api.VInt}, {Name: "b", Kind: api.VText}}}
}

// All ways of four changes one behind the other, copied ahead of the last.
func TestAllSmallTables(t *testing.T) {
	type told struct {
		do, id int
		v      api.Value
	}
	var all []told
	for id := range 3 {
		all = append(all, told{1, id, null()}, told{2, id, text("b")}, told{2, id, null()})
	}
	all = append(all, told{0, 0, text("a")}, told{0, 0, text("b")}, told{0, 0, null()})
	n := len(all)
	for way := range n * n * n * n {
		x, l := table.New(small()), plain(small())
		for k, rest := 0, way; k < 4; k, rest = k+1, rest/n {
			if k == 3 {
				x, l = x.Copy(), l.copy()
			}
			change(t, x, l, all[rest%n].do, all[rest%n].id, all[rest%n].v)
		}
		same(t, x, l)
	}
}

// next goes through numbers that look mixed.
func next(x *uint64, below int) int {
	*x = *x*6364136223846793005 + 1442695040888963407
	return int(*x>>33) % below
}

func TestManyChanges(t *testing.T) {
	for seed := range uint64(6) {
		r := seed
		x, l := table.New(small()), plain(small())
		for step := range 1500 {
			v := []api.Value{null(), num(int64(next(&r, 9))), text(strconv.Itoa(next(&r, 9)))}[next(&r, 3)]
			change(t, x, l, next(&r, 3), next(&r, l.next+2), v)
			if step%50 == 0 {
				same(t, x, l)
			}
			if step%200 == 0 {
				x, l = x.Copy(), l.copy()
			}
		}
		same(t, x, l)
	}
}

// P0.5: what is told to one table is not told to another.
func TestTablesAreApart(t *testing.T) {
	x, l := filled(t, 3)
	y, m := filled(t, 3)
	remove(t, x, l, 0)
	set(t, x, l, 1, "label", null(), api.OK)
	insert(t, y, m, good(5), api.OK)
	same(t, x, l)
	same(t, y, m)
}

// spoil writes into all that a table's lists have, their spare room too.
func spoil(x api.Table) {
	for i := range x.Deps[:cap(x.Deps)] {
		d := x.Deps[:cap(x.Deps)][i]
		for j := range d.Left[:cap(d.Left)] {
			d.Left[:cap(d.Left)][j] = "spoilt"
		}
		x.Deps[:cap(x.Deps)][i] = api.Dep{Right: "spoilt"}
	}
	for i := range x.Cols[:cap(x.Cols)] {
		x.Cols[:cap(x.Cols)][i] = api.Col{Name: "spoilt", Kind: api.VText}
	}
}

func spoilRow(vals []api.Value) {
	for i := range vals[:cap(vals)] {
		vals[:cap(vals)][i] = text("spoilt")
	}
}

// roomy is l with spare room behind it.
func roomy[T any](l []T) []T { return append(make([]T, 0, 20), l...) }

// spare is what stands in the spare room of roomy's l.
func spare[T any](l []T) []T { return l[:20][len(l):] }

// What is handed in is neither changed nor kept.
func TestHandedIn(t *testing.T) {
	form := goods()
	form.Cols, form.Deps = roomy(form.Cols), roomy(form.Deps)
	form.Deps[0].Left = roomy(form.Deps[0].Left)
	x, l := table.New(form), plain(goods())
	vals := roomy(good(1))
	insert(t, x, l, vals, api.OK)
	if !like(form, goods()) || !slices.Equal(vals, good(1)) ||
		!reflect.DeepEqual(spare(form.Cols), make([]api.Col, 16)) || !reflect.DeepEqual(spare(form.Deps), make([]api.Dep, 18)) ||
		!reflect.DeepEqual(spare(form.Deps[0].Left), make([]string, 18)) || !reflect.DeepEqual(spare(vals), make([]api.Value, 16)) {
		t.Errorf("P0.3: what is handed in is changed: %+v, %v", form, vals)
	}
	spoil(form)
	spoilRow(vals)
	same(t, x, l)
	insert(t, x, l, good(2), api.OK)
	same(t, x, l)
	same(t, x.Copy(), l)
}

// What is told is a copy.
func TestToldIsACopy(t *testing.T) {
	x, l := filled(t, 3)
	y := x.Copy()
	form, again := x.Form(), x.Form()
	spoil(form)
	spoil(y.Form())
	if !like(again, goods()) {
		t.Errorf("P11.1: Form: %+v", again)
	}
	first, _ := x.Row(1)
	second, _ := x.Row(1)
	copied, _ := y.Row(1)
	spoilRow(first)
	spoilRow(copied)
	if !slices.Equal(second, good(1)) {
		t.Errorf("P11.1: Row: %v", second)
	}
	for _, run := range x.Live().Runs() {
		run[0] = 9
	}
	same(t, x, l)
	same(t, y, l)
}

// No two lists of one answer share memory, even where one list was handed in
// as two.
func TestOneListTwice(t *testing.T) {
	form := small()
	left := []string{"a", "x"}
	form.Deps = []api.Dep{{Left: left, Right: "b"}, {Left: left, Right: "c"}}
	got := table.New(form).Form()
	got.Deps[0].Left[0] = "spoilt"
	_ = append(got.Deps[0].Left, "spoilt")
	if !slices.Equal(got.Deps[1].Left, []string{"a", "x"}) || !slices.Equal(left, []string{"a", "x"}) {
		t.Errorf("P0.3: two lists of one answer: %+v", got)
	}
}

func TestNil(t *testing.T) {
	var none *table.Table
	for _, vals := range [][]api.Value{nil, {}, good(1), {{Kind: 3}}, make([]api.Value, 1<<10)} {
		if id, err := none.Insert(vals); id != 0 || err != api.ErrNone {
			t.Errorf("P11.1: nil: Insert: %d, %v", id, err)
		}
	}
	for _, id := range []int{0, 1, -1, math.MaxInt, math.MinInt} {
		for _, v := range append(mayNot(), null(), num(1)) {
			if err := none.Set(id, "a", v); err != api.ErrNone {
				t.Errorf("P11.1: nil: Set: %v", err)
			}
		}
		if none.Delete(id) {
			t.Errorf("P11.1: nil: Delete(%d)", id)
		}
		if vals, ok := none.Row(id); ok || len(vals) != 0 {
			t.Errorf("P11.1: nil: Row: %v, %v", vals, ok)
		}
		if v, ok := none.Get(id, "a"); ok || v != null() {
			t.Errorf("P11.1: nil: Get: %v, %v", v, ok)
		}
	}
	if none.Copy() != nil || none.Next() != 0 || none.Words("a") != 0 || none.Words("") != 0 || none.Live().Count() != 0 {
		t.Errorf("P11.1: nil: Next %d, Live %v", none.Next(), none.Live().Runs())
	}
	if form := none.Form(); !like(form, api.Table{}) {
		t.Errorf("P11.1: nil: Form: %+v", form)
	}
}

// A table that New didn't make has no columns; one without columns has rows
// with no values.
func TestNoColumns(t *testing.T) {
	for _, x := range []*table.Table{new(table.Table), table.New(api.Table{}), new(table.Table).Copy()} {
		l := plain(api.Table{})
		same(t, x, l)
		remove(t, x, l, 0)
		insert(t, x, l, row(null()), api.ErrForm)
		insert(t, x, l, nil, api.OK)
		insert(t, x, l, row(), api.OK)
		set(t, x, l, 0, "", null(), api.ErrName)
		set(t, x, l, 2, "", null(), api.ErrNone)
		same(t, x, l)
		remove(t, x, l, 0)
		insert(t, x, l, nil, api.OK)
		same(t, x, l)
		same(t, x.Copy(), l)
	}
}

// New takes any form: in a column that is neither of numbers nor of texts
// VNull may stand alone.
func TestOtherKinds(t *testing.T) {
	for _, kind := range []int{api.VNull, 3, -1, math.MaxInt, math.MinInt, api.VInt + 1<<32} {
		form := api.Table{Name: "from", Cols: []api.Col{{Kind: kind}, {Name: "b", Kind: api.VText}}, Key: "none", Deps: []api.Dep{{}}}
		x, l := table.New(form), plain(form)
		for _, v := range append(mayNot(), num(1), text("a"), api.Value{Kind: kind, N: 1}) {
			insert(t, x, l, row(v, text("a")), api.ErrType)
		}
		insert(t, x, l, row(null(), text("a")), api.OK)
		insert(t, x, l, row(null(), null()), api.OK)
		for _, v := range append(mayNot(), num(1), text("a"), api.Value{Kind: kind, N: 1}) {
			set(t, x, l, 0, "", v, api.ErrType)
		}
		set(t, x, l, 0, "", null(), api.OK)
		same(t, x, l)
		same(t, x.Copy(), l)
	}
}

// Of columns of one name the first is meant.
func TestLikeNames(t *testing.T) {
	x := table.New(api.Table{Cols: []api.Col{{Name: "a", Kind: api.VText}, {Name: "a", Kind: api.VInt}}})
	if _, err := x.Insert(row(text("x"), num(1))); err != api.OK {
		t.Fatalf("P11.1: Insert: %v", err)
	}
	if v, ok := x.Get(0, "a"); v != text("x") || !ok || x.Words("a") != 1 {
		t.Errorf("P11.1: Get: %v, %v", v, ok)
	}
	if a, b := x.Set(0, "a", num(2)), x.Set(0, "a", text("y")); a != api.ErrType || b != api.OK {
		t.Errorf("P11.1: Set: %v, %v", a, b)
	}
	if vals, ok := x.Row(0); !ok || !slices.Equal(vals, row(text("y"), num(1))) {
		t.Errorf("P11.1: Row: %v, %v", vals, ok)
	}
}

// When all numbers are given no row comes any more, though few are there.
func TestAllNumbers(t *testing.T) {
	x, l := filled(t, 0)
	for i := range full {
		insert(t, x, l, good(i), api.OK)
		if i%1000 != 0 {
			remove(t, x, l, i)
		}
		if got := x.Live(); x.Next() != i+1 || got.Count() != i/1000+1 {
			t.Fatalf("P11.1: behind %d Next %d, Live %d", i, x.Next(), got.Count())
		}
	}
	remove(t, x, l, 65000)
	for _, vals := range [][]api.Value{good(1), nil, good(1)[:1], {text("it's"), null(), null(), null()}} {
		insert(t, x, l, vals, api.ErrLimit)
	}
	same(t, x, l)
	set(t, x, l, 0, "label", text("x"), api.OK)
	y, m := x.Copy(), l.copy()
	insert(t, y, m, good(1), api.ErrLimit)
	remove(t, y, m, 0)
	insert(t, y, m, good(1), api.ErrLimit)
	same(t, x, l)
	same(t, y, m)
}

// The number ahead of the last one that may be given, and that one.
func TestLastNumbers(t *testing.T) {
	x, l := table.New(api.Table{}), plain(api.Table{})
	for range full - 1 {
		insert(t, x, l, nil, api.OK)
	}
	insert(t, x, l, row(null()), api.ErrForm)
	insert(t, x, l, nil, api.OK)
	insert(t, x, l, nil, api.ErrLimit)
	insert(t, x, l, row(null()), api.ErrLimit)
	if x.Next() != full || !bitmap.Eq(x.Live(), bitmap.Span(0, full)) || !x.Live().Has(full-1) {
		t.Errorf("P11.1: Next %d, Live %v", x.Next(), x.Live().Runs())
	}
}

// Rows that go far from one another, and all of them.
func TestManyRows(t *testing.T) {
	x, l := filled(t, full)
	if x.Words("label") != full || x.Words("maker") != 1 {
		t.Errorf("P11.1: Words %d, %d", x.Words("label"), x.Words("maker"))
	}
	for id := 1; id < full; id += 2 {
		remove(t, x, l, id)
	}
	same(t, x, l)
	y := x.Copy()
	same(t, y, l)
	for id := range full {
		remove(t, x, l, id)
	}
	same(t, x, l)
	if got := y.Live(); got.Count() != full/2 || got.Select(1) != 2 {
		t.Errorf("P11.1: a copy goes its own way: Live %d", got.Count())
	}
}

// Names, texts and forms however great.
func TestGreat(t *testing.T) {
	const n = 1 << 16
	form := api.Table{Name: strings.Repeat("n", n), Key: strings.Repeat("k", n)}
	for i := range n {
		form.Cols = append(form.Cols, api.Col{Name: strconv.Itoa(i), Kind: api.VInt})
	}
	x := table.New(form)
	vals := make([]api.Value, n)
	vals[n-1] = num(5)
	if id, err := x.Insert(vals); id != 0 || err != api.OK {
		t.Fatalf("P11.1: Insert: %d, %v", id, err)
	}
	last := strconv.Itoa(n - 1)
	if v, ok := x.Get(0, last); v != num(5) || !ok {
		t.Errorf("P11.1: Get: %v, %v", v, ok)
	}
	if err := x.Set(0, last, text("x")); err != api.ErrType {
		t.Errorf("P11.1: Set: %v", err)
	}
	if got, ok := x.Copy().Row(0); !ok || !slices.Equal(got, vals) || !like(x.Form(), form) {
		t.Error("P11.1: Row, Form of many columns")
	}
}
