package schema_test

import (
	"math"
	"reflect"
	"slices"
	"strconv"
	"strings"
	"testing"

	"asterism/api"
	"asterism/schema"
)

// ints has columns of numbers with these names.
func ints(names ...string) []api.Col {
	var cols []api.Col
	for _, name := range names {
		cols = append(cols, api.Col{Name: name, Kind: api.VInt})
	}
	return cols
}

func dep(right string, left ...string) api.Dep { return api.Dep{Left: left, Right: right} }

// stores is a Schema of the tables plain (no Key), region (Key: a text) and
// day (Key: a number).
func stores(t *testing.T) *schema.Schema {
	t.Helper()
	s := schema.New()
	add(t, s, api.Table{Name: "plain", Cols: ints("a", "b")}, api.OK)
	add(t, s, api.Table{Name: "region", Key: "id", Cols: []api.Col{
		{Name: "name", Kind: api.VText, Must: true}, {Name: "id", Kind: api.VText},
	}}, api.OK)
	add(t, s, api.Table{Name: "day", Key: "no", Cols: ints("no", "year")}, api.OK)
	return s
}

// good is a table that may stand in stores, with something of each kind.
func good() api.Table {
	return api.Table{
		Name: "store",
		Cols: []api.Col{
			{Name: "id", Kind: api.VInt},
			{Name: "in_region", Kind: api.VText, To: "region"},
			{Name: "opened", Kind: api.VInt, Must: true, To: "day"},
			{Name: "size", Kind: api.VInt},
			{Name: "label", Kind: api.VText, Must: true},
			{Name: "note", Kind: api.VText},
		},
		Key:  "id",
		Deps: []api.Dep{dep("size", "in_region", "opened", "label"), dep("label", "size")},
	}
}

// add asks that Add answers want, and that just OK changes what is there.
func add(t *testing.T, s *schema.Schema, x api.Table, want api.Errno) {
	t.Helper()
	before := told(s)
	if err := s.Add(x); err != want {
		t.Fatalf("P8.1: Add(%+v): %v, not %v", x, err, want)
	}
	after := told(s)
	more := 0
	if want == api.OK {
		more = 1
	}
	if len(after) != len(before)+more || !slices.EqualFunc(before, after[:len(before)], like) {
		t.Fatalf("P8.1: Add(%+v): %v, and %+v turned %+v", x, want, before, after)
	}
}

// told has all tables of s, by Names and Find.
func told(s *schema.Schema) []api.Table {
	var all []api.Table
	for _, name := range s.Names() {
		x, ok := s.Find(name)
		if !ok {
			x.Name = "none named " + name
		}
		all = append(all, x)
	}
	return all
}

// like holds two tables against each other; a nil list is like an empty one.
func like(a, b api.Table) bool {
	return a.Name == b.Name && a.Key == b.Key && slices.Equal(a.Cols, b.Cols) &&
		slices.EqualFunc(a.Deps, b.Deps, func(d, e api.Dep) bool {
			return d.Right == e.Right && slices.Equal(d.Left, e.Left)
		})
}

func TestFindAsAdded(t *testing.T) {
	s := stores(t)
	add(t, s, good(), api.OK)
	want := good()
	want.Cols[0].Must = true
	got, ok := s.Find("store")
	if !ok || !like(got, want) {
		t.Errorf("P8.1: Find: %+v, %v, not %+v", got, ok, want)
	}
	for _, c := range want.Cols {
		if got, ok := s.Col("store", c.Name); got != c || !ok {
			t.Errorf("P8.1: Col(%q): %+v, %v, not %+v", c.Name, got, ok, c)
		}
	}
	if names := s.Names(); !slices.Equal(names, []string{"plain", "region", "day", "store"}) {
		t.Errorf("P8.1: Names: %q", names)
	}
	if c, ok := s.Col("region", "id"); !ok || c != (api.Col{Name: "id", Kind: api.VText, Must: true}) {
		t.Errorf("P8.1: Col of a Key that isn't first: %+v, %v", c, ok)
	}
	if c, ok := s.Col("plain", "a"); !ok || c != (api.Col{Name: "a", Kind: api.VInt}) {
		t.Errorf("P8.1: Col without a Key: %+v, %v", c, ok)
	}
}

// What is as the chapter wants it, at its edges.
func TestMay(t *testing.T) {
	name := strings.Repeat("n", api.MaxName)
	for _, x := range []api.Table{
		{Name: "a", Cols: ints("a")},
		{Name: "a", Cols: ints("a"), Key: "a"},
		{Name: name, Cols: ints(name), Key: name},
		{Name: "a", Cols: ints("a", "b", "c", "d", "e", "f"), Key: "f"},
		{Name: "a", Cols: ints("a", "b", "c", "d"), Deps: []api.Dep{dep("d", "a", "b", "c")}},
		{Name: "a", Cols: ints("a", "b"), Key: "a", Deps: []api.Dep{dep("a", "b"), dep("b", "a"), dep("b", "a")}},
		{Name: "a", Cols: []api.Col{{Name: "a", Kind: api.VText, Must: true}}, Key: "a"},
		{Name: "a", Cols: []api.Col{{Name: "region", Kind: api.VText, To: "region"}}, Key: "region"},
		{Name: "a", Cols: []api.Col{{Name: "x", Kind: api.VInt, To: "day"}, {Name: "y", Kind: api.VInt, To: "day"}}},
		{Name: "a", Cols: ints("a"), Deps: []api.Dep{}},
	} {
		s := stores(t)
		add(t, s, x, api.OK)
		want := x
		want.Cols = slices.Clone(x.Cols)
		for i := range want.Cols {
			want.Cols[i].Must = want.Cols[i].Must || want.Cols[i].Name == x.Key
		}
		if got, ok := s.Find(x.Name); !ok || !like(got, want) {
			t.Errorf("P8.1: Find: %+v, %v, not %+v", got, ok, want)
		}
	}
}

// A fault makes a good table a bad one; rank says how far behind the chapter
// names it, and at which part of the table it is (two of like part do not go
// together).
type fault struct {
	rank int
	part string
	err  api.Errno
	make func(x *api.Table)
}

func name(s string) fault {
	return fault{2, "name", api.ErrName, func(x *api.Table) { x.Name = s }}
}

func col(s string) fault {
	return fault{2, "note", api.ErrName, func(x *api.Table) { x.Cols[5].Name = s }}
}

func key(s string) fault {
	return fault{2, "key", api.ErrName, func(x *api.Table) { x.Key = s }}
}

func left(names ...string) fault {
	return fault{2, "dep", api.ErrName, func(x *api.Table) { x.Deps[1].Left = names }}
}

func right(s string) fault {
	return fault{2, "dep", api.ErrName, func(x *api.Table) { x.Deps[1].Right = s }}
}

func kind(i, n int) fault {
	return fault{3, "kind" + strconv.Itoa(i), api.ErrType, func(x *api.Table) { x.Cols[i].Kind = n }}
}

func to(i int, s string, err api.Errno) fault {
	return fault{4 + i, "to" + strconv.Itoa(i), err, func(x *api.Table) { x.Cols[i].To = s }}
}

func faults() []fault {
	long := strings.Repeat("n", api.MaxName+1)
	return []fault{
		{1, "cols", api.ErrLimit, func(x *api.Table) { x.Cols = append(x.Cols, ints("x")...) }},
		{1, "cols", api.ErrLimit, func(x *api.Table) { x.Cols = append(x.Cols, ints("x", "x", "x", "", long)...) }},
		{1, "deps", api.ErrLimit, func(x *api.Table) { x.Deps = append(x.Deps, dep("size", "id"), dep("label", "id")) }},
		{1, "deps", api.ErrLimit, func(x *api.Table) { x.Deps = append(x.Deps, api.Dep{}, api.Dep{}) }},
		name(""), name("Store"), name("1st"), name("from"), name("rows"), name(long), name("a b"), name("é"),
		name("plain"), name("region"), name("day"),
		col(""), col("Label"), col("1st"), col("key"), col(long), col("a.b"), col("\xff"), col("id"), col("size"),
		key("none"), key("store"), key("ID"), key("id "), key(long), key("in_region.id"),
		left(), left("size", "id", "in_region", "opened"), left("id", "id", "id", "id"), left("none"), left(""),
		left("id", "none"), left("size", "size"), left("size", "id", "size"), left("region"), left("in_region.id"),
		right(""), right("none"), right("size"), right("region"), right("Label"),
		kind(0, api.VNull), kind(3, 3), kind(3, -1), kind(5, math.MaxInt), kind(5, math.MinInt),
		to(0, "none", api.ErrName), to(0, "store", api.ErrName), to(0, "Region", api.ErrName), to(0, "day ", api.ErrName),
		to(0, long, api.ErrName), to(0, "plain", api.ErrRef), to(0, "region", api.ErrType),
		to(1, "none", api.ErrName), to(1, "plain", api.ErrRef), to(1, "day", api.ErrType),
		to(2, "store", api.ErrName), to(2, "plain", api.ErrRef), to(2, "region", api.ErrType),
		to(3, "from", api.ErrName), to(3, "plain", api.ErrRef), to(3, "region", api.ErrType),
		to(5, "id", api.ErrName), to(5, "plain", api.ErrRef), to(5, "day", api.ErrType),
	}
}

func TestFaults(t *testing.T) {
	for _, f := range faults() {
		x := good()
		f.make(&x)
		add(t, stores(t), x, f.err)
	}
	no := good()
	for _, cols := range [][]api.Col{nil, {}} {
		no.Cols = cols
		add(t, stores(t), no, api.ErrLimit)
	}
}

// Of two faults that of the lower rank is told.
func TestFirstFault(t *testing.T) {
	for _, f := range faults() {
		for _, g := range faults() {
			if f.rank > g.rank || f.part == g.part {
				continue
			}
			x := good()
			g.make(&x)
			f.make(&x)
			if f.rank == g.rank && f.err != g.err {
				t.Fatalf("two of rank %d", f.rank)
			}
			add(t, stores(t), x, f.err)
		}
	}
}

// Where a To is looked at, its column's Kind may be; that of a column behind
// it was looked at before.
func TestKindsAheadOfTo(t *testing.T) {
	for _, to := range []string{"none", "plain", "region"} {
		add(t, stores(t), api.Table{Name: "x", Cols: []api.Col{
			{Name: "a", Kind: api.VInt, To: to}, {Name: "b", Kind: 3},
		}}, api.ErrType)
		add(t, stores(t), api.Table{Name: "x", Cols: []api.Col{
			{Name: "a", Kind: 3, To: to}, {Name: "b", Kind: api.VInt},
		}}, api.ErrType)
	}
}

// lists has all lists of names up to that length.
func lists(names []string, most int) [][]string {
	all := [][]string{nil}
	last := all
	for range most {
		var longer [][]string
		for _, l := range last {
			for _, name := range names {
				longer = append(longer, append(slices.Clone(l), name))
			}
		}
		all = append(all, longer...)
		last = longer
	}
	return all
}

func mayDep(d api.Dep, cols []string) bool {
	seen := map[string]int{d.Right: 1}
	ok := slices.Contains(cols, d.Right) && len(d.Left) >= 1 && len(d.Left) <= 3
	for _, name := range d.Left {
		seen[name]++
		ok = ok && seen[name] == 1 && slices.Contains(cols, name)
	}
	return ok
}

func TestDeps(t *testing.T) {
	cols := []string{"a", "b", "c", "d"}
	for _, left := range lists([]string{"a", "b", "c", "d", "e", ""}, 4) {
		for _, right := range []string{"a", "b", "d", "e", ""} {
			for at := range 3 {
				x := api.Table{Name: "x", Cols: ints(cols...)}
				x.Deps = []api.Dep{dep("a", "b"), dep("a", "b"), dep("a", "b")}
				x.Deps[at] = dep(right, left...)
				want := api.ErrName
				if mayDep(x.Deps[at], cols) {
					want = api.OK
				}
				if err := schema.New().Add(x); err != want {
					t.Fatalf("P8.1: dep %d %v: %v, not %v", at, x.Deps[at], err, want)
				}
			}
		}
	}
}

func TestEightTables(t *testing.T) {
	s := schema.New()
	var names []string
	for i := range api.MaxTables {
		names = append(names, "t"+strconv.Itoa(9-i))
		x := api.Table{Name: names[i], Cols: ints("k"), Key: "k"}
		if i > 0 {
			x.Cols[0].To = names[i-1]
		}
		add(t, s, x, api.OK)
	}
	if !slices.Equal(s.Names(), names) {
		t.Errorf("P8.1: Names: %q, not %q", s.Names(), names)
	}
	for _, x := range []api.Table{good(), {}, {Name: "t9", Cols: ints("a")}, {Name: "from", Cols: []api.Col{{}}}} {
		add(t, s, x, api.ErrLimit)
	}
	for i, name := range names[1:] {
		if c, ok := s.Col(name, "k"); !ok || !c.Must || c.To != names[i] {
			t.Errorf("P8.1: Col of %s: %+v, %v", name, c, ok)
		}
	}
}

// A To that names a table which comes only later names none.
func TestToOfLater(t *testing.T) {
	s := schema.New()
	x := api.Table{Name: "x", Cols: []api.Col{{Name: "a", Kind: api.VInt, To: "day"}}}
	add(t, s, x, api.ErrName)
	add(t, s, api.Table{Name: "day", Cols: ints("no"), Key: "no"}, api.OK)
	add(t, s, x, api.OK)
	add(t, s, x, api.ErrName)
}

func TestNotThere(t *testing.T) {
	s := stores(t)
	for _, name := range []string{"", "none", "store", "a", "Plain", "plain ", "day\x00", "from", strings.Repeat("x", 1<<20)} {
		if x, ok := s.Find(name); ok || !reflect.DeepEqual(x, api.Table{}) {
			t.Errorf("P8.1: Find(%.20q): %+v, %v", name, x, ok)
		}
		for _, col := range []string{"a", "id", "", name} {
			if c, ok := s.Col(name, col); ok || c != (api.Col{}) {
				t.Errorf("P8.1: Col(%.20q, %.20q): %+v, %v", name, col, c, ok)
			}
		}
	}
	for _, col := range []string{"", "c", "A", "a ", "plain", "id", strings.Repeat("a", 1<<20)} {
		if c, ok := s.Col("plain", col); ok || c != (api.Col{}) {
			t.Errorf("P8.1: Col(plain, %.20q): %+v, %v", col, c, ok)
		}
	}
}

func TestNilAndZero(t *testing.T) {
	var none *schema.Schema
	for _, x := range []api.Table{good(), {}, {Name: "x", Cols: ints("a")}} {
		if err := none.Add(x); err != api.ErrNone {
			t.Errorf("P8.1: nil: Add: %v", err)
		}
	}
	if x, ok := none.Find("x"); ok || !reflect.DeepEqual(x, api.Table{}) {
		t.Errorf("P8.1: nil: Find: %+v, %v", x, ok)
	}
	if c, ok := none.Col("x", "a"); ok || c != (api.Col{}) {
		t.Errorf("P8.1: nil: Col: %+v, %v", c, ok)
	}
	if names := none.Names(); len(names) != 0 {
		t.Errorf("P8.1: nil: Names: %q", names)
	}
	var zero schema.Schema
	if names := zero.Names(); len(names) != 0 {
		t.Errorf("P8.1: a zero one: Names: %q", names)
	}
	add(t, &zero, api.Table{Name: "x", Cols: ints("a")}, api.OK)
	if a, b := schema.New(), schema.New(); a == nil || a == b || len(a.Names()) != 0 {
		t.Error("P8.1: New")
	}
}

// spoil writes into all that a table's lists have, their spare room too.
func spoil(x api.Table) {
	for i := range x.Deps[:cap(x.Deps)] {
		d := x.Deps[:cap(x.Deps)][i]
		for j := range d.Left[:cap(d.Left)] {
			d.Left[:cap(d.Left)][j] = "spoilt"
		}
		x.Deps[:cap(x.Deps)][i] = api.Dep{Right: "spoilt"}
	}
	for i := range x.Cols[:cap(x.Cols)] {
		x.Cols[:cap(x.Cols)][i] = api.Col{Name: "spoilt"}
	}
}

// What is handed in is neither changed nor kept, what is told is new memory.
func TestApart(t *testing.T) {
	s := stores(t)
	x, want := good(), good()
	x.Cols = append(make([]api.Col, 0, 20), x.Cols...)
	x.Deps = append(make([]api.Dep, 0, 20), x.Deps...)
	x.Deps[0].Left = append(make([]string, 0, 20), x.Deps[0].Left...)
	add(t, s, x, api.OK)
	if !reflect.DeepEqual(x, want) || !reflect.DeepEqual(x.Cols[:20][len(x.Cols):], make([]api.Col, 20-len(x.Cols))) ||
		!reflect.DeepEqual(x.Deps[:20][len(x.Deps):], make([]api.Dep, 20-len(x.Deps))) ||
		!reflect.DeepEqual(x.Deps[0].Left[:20][3:], make([]string, 17)) {
		t.Errorf("P0.3: Add changes what is handed in: %+v", x)
	}
	want.Cols[0].Must = true
	spoil(x)
	first, _ := s.Find("store")
	second, _ := s.Find("store")
	names, again := s.Names(), s.Names()
	spoil(first)
	for i := range names[:cap(names)] {
		names[:cap(names)][i] = "spoilt"
	}
	third, _ := s.Find("store")
	for _, got := range []api.Table{second, third} {
		if !like(got, want) {
			t.Errorf("P0.3: Find: %+v, not %+v", got, want)
		}
	}
	for _, got := range [][]string{again, s.Names()} {
		if !slices.Equal(got, []string{"plain", "region", "day", "store"}) {
			t.Errorf("P0.3: Names: %q", got)
		}
	}
}

// No two lists of one answer share memory, even where one list was handed in
// as two.
func TestOneListTwice(t *testing.T) {
	s := schema.New()
	left := []string{"a", "b"}
	add(t, s, api.Table{Name: "x", Cols: ints("a", "b", "c", "d"), Deps: []api.Dep{dep("c", left...), dep("d", left...)}}, api.OK)
	x, _ := s.Find("x")
	x.Deps[0].Left[0] = "spoilt"
	_ = append(x.Deps[0].Left, "spoilt")
	if got := x.Deps[1].Left; !slices.Equal(got, left) {
		t.Errorf("P0.3: two lists of one answer: %q", got)
	}
}

// Two Schemas, and one that is copied as a value, go their own ways.
func TestOwnWays(t *testing.T) {
	a := stores(t)
	b, c := *a, schema.New()
	add(t, a, api.Table{Name: "one", Cols: ints("a")}, api.OK)
	add(t, &b, api.Table{Name: "other", Cols: ints("b")}, api.OK)
	if _, ok := a.Find("other"); ok || !slices.Equal(a.Names(), []string{"plain", "region", "day", "one"}) {
		t.Errorf("P0.5: %q", a.Names())
	}
	if _, ok := b.Find("one"); ok || !slices.Equal(b.Names(), []string{"plain", "region", "day", "other"}) {
		t.Errorf("P0.5: %q", b.Names())
	}
	if len(c.Names()) != 0 {
		t.Errorf("P0.5: %q", c.Names())
	}
}

func TestGreat(t *testing.T) {
	const n = 1 << 20
	s := stores(t)
	huge := strings.Repeat("x", n)
	x := good()
	x.Cols = make([]api.Col, n)
	add(t, s, x, api.ErrLimit)
	x = good()
	x.Deps = make([]api.Dep, n)
	add(t, s, x, api.ErrLimit)
	x = good()
	x.Deps[0].Left = slices.Repeat([]string{"id"}, n)
	add(t, s, x, api.ErrName)
	for _, spoil := range []func(x *api.Table){
		func(x *api.Table) { x.Name = huge },
		func(x *api.Table) { x.Key = huge },
		func(x *api.Table) { x.Cols[1].Name = huge },
		func(x *api.Table) { x.Cols[1].To = huge },
		func(x *api.Table) { x.Deps[0].Left[2] = huge },
		func(x *api.Table) { x.Deps[0].Right = huge },
	} {
		x := good()
		spoil(&x)
		add(t, s, x, api.ErrName)
	}
	add(t, s, good(), api.OK)
}
