package fd_test

import (
	"math"
	"slices"
	"strconv"
	"strings"
	"testing"

	"asterism/api"
	"asterism/fd"
	"asterism/path"
	"asterism/schema"
)

// star has what the chapter tells apart: ways of four names, two to one table
// (day), a table without a Key (loose), a Key that names another table's (more),
// deps with and without Must, of several columns, one behind the other, over
// columns that have a To, and with a Key in Left.
func star() []api.Table {
	return []api.Table{
		{Name: "zone", Key: "name", Cols: []api.Col{
			{Name: "name", Kind: api.VText}, {Name: "size", Kind: api.VInt}, {Name: "rank", Kind: api.VInt, Must: true},
		}, Deps: []api.Dep{{Left: []string{"size"}, Right: "rank"}, {Left: []string{"rank"}, Right: "size"}}},
		{Name: "region", Key: "id", Cols: []api.Col{
			{Name: "zone", Kind: api.VText, To: "zone"}, {Name: "id", Kind: api.VInt}, {Name: "chief", Kind: api.VText, Must: true},
		}, Deps: []api.Dep{{Left: []string{"chief"}, Right: "zone"}, {Left: []string{"zone"}, Right: "chief"}}},
		{Name: "store", Key: "id", Cols: []api.Col{
			{Name: "id", Kind: api.VInt}, {Name: "region", Kind: api.VInt, Must: true, To: "region"},
			{Name: "town", Kind: api.VText, Must: true}, {Name: "post", Kind: api.VInt}, {Name: "type", Kind: api.VText},
		}, Deps: []api.Dep{
			{Left: []string{"type"}, Right: "town"}, {Left: []string{"town", "region"}, Right: "post"}, {Left: []string{"town", "post"}, Right: "type"},
		}},
		{Name: "day", Key: "no", Cols: []api.Col{
			{Name: "year", Kind: api.VInt, Must: true}, {Name: "no", Kind: api.VInt}, {Name: "month", Kind: api.VInt, Must: true}, {Name: "name", Kind: api.VText, Must: true},
		}, Deps: []api.Dep{
			{Left: []string{"name"}, Right: "month"}, {Left: []string{"month"}, Right: "year"}, {Left: []string{"no", "year"}, Right: "name"},
		}},
		{Name: "sale", Key: "nr", Cols: []api.Col{
			{Name: "nr", Kind: api.VInt}, {Name: "store", Kind: api.VInt, Must: true, To: "store"},
			{Name: "due", Kind: api.VInt, To: "day"}, {Name: "paid", Kind: api.VInt, Must: true, To: "day"}, {Name: "what", Kind: api.VText, Must: true},
		}, Deps: []api.Dep{
			{Left: []string{"what", "store", "paid"}, Right: "due"}, {Left: []string{"due", "what"}, Right: "store"}, {Left: []string{"what", "nr"}, Right: "paid"},
		}},
		{Name: "loose", Cols: []api.Col{
			{Name: "of", Kind: api.VInt, To: "sale"}, {Name: "n", Kind: api.VInt, Must: true}, {Name: "id", Kind: api.VInt}, {Name: "m", Kind: api.VInt},
		}, Deps: []api.Dep{{Left: []string{"n"}, Right: "of"}, {Left: []string{"id"}, Right: "n"}, {Left: []string{"m", "n"}, Right: "id"}}},
		{Name: "more", Key: "store", Cols: []api.Col{
			{Name: "store", Kind: api.VInt, To: "store"}, {Name: "word", Kind: api.VText}, {Name: "s", Kind: api.VText},
		}},
		{Name: "last", Cols: []api.Col{
			{Name: "more", Kind: api.VInt, To: "more"}, {Name: "x", Kind: api.VInt}, {Name: "loose", Kind: api.VText},
		}},
	}
}

// widest has as many tables and columns as may be; each column names the key
// of the table ahead, so that there are as many ways as can be. No table has a
// dep, and its key is the column key.
func widest(key string) []api.Table {
	var tables []api.Table
	for i := range api.MaxTables {
		t := api.Table{Name: "t" + strconv.Itoa(i), Key: key}
		for k := range api.MaxCols {
			c := api.Col{Name: "c" + strconv.Itoa((k*5+i)%api.MaxCols), Kind: api.VInt}
			if i > 0 {
				c.To = tables[i-1].Name
			}
			t.Cols = append(t.Cols, c)
		}
		tables = append(tables, t)
	}
	return tables
}

func of(t *testing.T, tables []api.Table) *schema.Schema {
	t.Helper()
	s := schema.New()
	for _, x := range tables {
		if err := s.Add(x); err != api.OK {
			t.Fatalf("Add(%+v): %v", x, err)
		}
	}
	return s
}

// split answers the paths that a text tells of, names by points.
func split(text string) []api.Path {
	var l []api.Path
	for _, w := range strings.Fields(text) {
		l = append(l, strings.Split(w, "."))
	}
	return l
}

func text(l []api.Path) string {
	var texts []string
	for _, p := range l {
		texts = append(texts, path.Text(p))
	}
	return strings.Join(texts, " ")
}

func same(a, b []api.Path) bool {
	return slices.EqualFunc(a, b, func(p, q api.Path) bool { return slices.Equal(p, q) })
}

// way is a way of the model: its texts (as no name has a point), the column at
// its end, and the number of the table that the way ahead of it leads to.
type way struct {
	ahead, text string
	col         api.Col
	at          int
}

// model holds the chapter's sentences upon the tables themselves.
type model struct {
	tables []api.Table
	ways   []way
	own    int // the number of the table itself, or -1
}

func (m *model) number(name string) int {
	return slices.IndexFunc(m.tables, func(t api.Table) bool { return t.Name == name })
}

func newModel(tables []api.Table, table string) *model {
	m := &model{tables: tables}
	m.own = m.number(table)
	if m.own >= 0 {
		m.goOn("", m.own, 1)
	}
	slices.SortFunc(m.ways, func(a, b way) int {
		return slices.Compare(strings.Split(a.text, "."), strings.Split(b.text, "."))
	})
	return m
}

func (m *model) goOn(ahead string, at, n int) {
	for _, c := range m.tables[at].Cols {
		w := way{ahead: ahead, text: ahead + c.Name, col: c, at: at}
		m.ways = append(m.ways, w)
		if c.To != "" && n < 4 {
			m.goOn(w.text+".", m.number(c.To), n+1)
		}
	}
}

func must(t api.Table, name string) bool {
	i := slices.IndexFunc(t.Cols, func(c api.Col) bool { return c.Name == name })
	return t.Cols[i].Must || name == t.Key
}

// more is one turn of the four rules; whether it brought something.
func (m *model) more(in map[string]bool) bool {
	n := len(in)
	for _, w := range m.ways {
		t := m.tables[w.at]
		if in[w.text] && w.col.To != "" {
			for _, x := range m.ways {
				if x.ahead == w.text+"." {
					in[x.text] = true
				}
			}
		}
		if in[w.text] && w.col.Name == t.Key && w.ahead != "" {
			in[strings.TrimSuffix(w.ahead, ".")] = true
		}
		if w.ahead == "" && t.Key != "" && in[t.Key] {
			in[w.text] = true
		}
		for _, d := range t.Deps {
			if d.Right != w.col.Name {
				continue
			}
			holds := true
			for _, l := range d.Left {
				holds = holds && in[w.ahead+l] && must(t, l)
			}
			if holds {
				in[w.text] = true
			}
		}
	}
	return len(in) > n
}

func (m *model) closure(from []api.Path) []api.Path {
	in := map[string]bool{}
	for _, w := range m.ways {
		if slices.ContainsFunc(from, func(p api.Path) bool { return slices.Equal(p, strings.Split(w.text, ".")) }) {
			in[w.text] = true
		}
	}
	for m.more(in) {
	}
	var l []api.Path
	for _, w := range m.ways {
		if in[w.text] {
			l = append(l, strings.Split(w.text, "."))
		}
	}
	return l
}

// against holds one call of Closure against the model.
func against(t *testing.T, s *schema.Schema, m *model, table string, from []api.Path) {
	t.Helper()
	got, want := fd.Closure(s, table, from), m.closure(from)
	if !same(got, want) {
		t.Fatalf("P10.1: Closure(%q, %q):\n%s, not\n%s", table, from, text(got), text(want))
	}
}

// Closure against the model: each table's ways, alone and by twos.
func TestClosureByTwos(t *testing.T) {
	tables := star()
	s := of(t, tables)
	for _, x := range tables {
		m := newModel(tables, x.Name)
		all := path.All(s, x.Name)
		if len(all) != len(m.ways) {
			t.Fatalf("the model has %d ways of %s, not %d", len(m.ways), x.Name, len(all))
		}
		against(t, s, m, x.Name, nil)
		against(t, s, m, x.Name, all)
		for i, a := range all {
			against(t, s, m, x.Name, []api.Path{a})
			for _, b := range all[:min(i, 12)] {
				against(t, s, m, x.Name, []api.Path{a, b})
			}
		}
	}
}

// dice answers numbers that look like any, the same in each run.
type dice uint64

func (d *dice) below(n int) int {
	*d = *d*6364136223846793005 + 1442695040888963407
	return int(uint64(*d)>>33) % n
}

// pick answers at most n of the names, each once.
func (d *dice) pick(names []string, n int) []string {
	var l []string
	for range n {
		if name := names[d.below(len(names))]; !slices.Contains(l, name) {
			l = append(l, name)
		}
	}
	return l
}

// anyTables answers tables that may be, of all kinds.
func (d *dice) anyTables(most int) []api.Table {
	var tables []api.Table
	for i := range 1 + d.below(most) {
		t := api.Table{Name: "t" + strconv.Itoa(i)}
		names := d.pick([]string{"a", "b", "c", "d", "a_", "_", "ab", "a0", "id"}, 1+d.below(6))
		for _, name := range names {
			c := api.Col{Name: name, Kind: api.VInt, Must: d.below(3) > 0}
			if to := d.below(len(tables) + 2); to < len(tables) && tables[to].Key != "" {
				c.To = tables[to].Name
			}
			t.Cols = append(t.Cols, c)
		}
		if d.below(4) > 0 {
			t.Key = names[d.below(len(names))]
		}
		for range d.below(4) {
			left, right := d.pick(names, 1+d.below(3)), names[d.below(len(names))]
			if !slices.Contains(left, right) {
				t.Deps = append(t.Deps, api.Dep{Left: left, Right: right})
			}
		}
		tables = append(tables, t)
	}
	return tables
}

func (d *dice) someWays(all []api.Path, n int) []api.Path {
	var from []api.Path
	for range min(n, len(all)) {
		from = append(from, all[d.below(len(all))])
	}
	return from
}

// Closure against the model, over many unlike Schemas.
func TestClosureOfAnyTables(t *testing.T) {
	d := dice(1)
	for range 600 {
		tables := d.anyTables(6)
		s := of(t, tables)
		for _, x := range tables {
			all := path.All(s, x.Name)
			if len(all) > 300 {
				continue
			}
			m := newModel(tables, x.Name)
			for n := range 6 {
				against(t, s, m, x.Name, d.someWays(all, n))
			}
		}
	}
}

func TestClosureByHand(t *testing.T) {
	s := of(t, star())
	day := func(at string) string {
		return at + " " + at + ".month " + at + ".name " + at + ".no " + at + ".year"
	}
	// behind is all that a region's id determines behind the way at.
	behind := func(at string) string {
		return at + " " + at + ".chief " + at + ".id " + at + ".zone " + at + ".zone.name " + at + ".zone.rank " + at + ".zone.size"
	}
	store := "store store.id store.post " + behind("store.region") + " store.town store.type"
	for _, x := range []struct{ table, from, want string }{
		// Nothing of nothing, and others are passed over.
		{"sale", "", ""},
		{"sale", "none store.none due.none.no what.store STORE sale", ""},
		{"sale", "none what", "what"},
		{"none", "what", ""},
		{"none", "", ""},

		// 1: of a way whose column has a To, all behind it, as far as ways go.
		{"sale", "due", day("due")},
		{"sale", "store", store},
		{"loose", "of.store.region", "of.store.region of.store.region.chief of.store.region.id of.store.region.zone"},
		{"loose", "of.store.region.zone", "of.store.region.zone"},
		{"store", "region.zone", "region.zone region.zone.name region.zone.rank region.zone.size"},
		{"sale", "due paid", day("due") + " " + day("paid")},

		// 2: the key at a way's end, and the way.
		{"sale", "due.no", day("due")},
		{"sale", "store.id", store},
		{"store", "region.zone.name", "region.zone region.zone.name region.zone.rank region.zone.size"},
		{"loose", "of.store.region.id", "of.store.region of.store.region.chief of.store.region.id of.store.region.zone"},
		{"last", "more.store", "more more.s more.store more.store.id more.store.post more.store.region more.store.region.chief " +
			"more.store.region.id more.store.region.zone more.store.town more.store.type more.word"},
		{"last", "more.store.id", "more more.s more.store more.store.id more.store.post more.store.region more.store.region.chief " +
			"more.store.region.id more.store.region.zone more.store.town more.store.type more.word"},
		{"last", "more.word more.s", "more.s more.word"},

		// 3: the table's own Key, and only it.
		{"zone", "name", "name rank size"},
		{"day", "no", "month name no year"},
		{"more", "store", "s store store.id store.post " + behind("store.region") + " store.town store.type word"},
		{"more", "store.id", "s store store.id store.post " + behind("store.region") + " store.town store.type word"},
		{"loose", "id", "id"},
		{"last", "x loose", "loose x"},

		// 4: deps, of the table itself and behind a way that isn't there.
		{"zone", "rank", "rank size"},
		{"zone", "size", "size"},
		{"day", "name", "month name year"},
		{"day", "month", "month year"},
		{"day", "year", "year"},
		{"sale", "due.name", "due.month due.name due.year"},
		{"sale", "due.year", "due.year"},
		{"sale", "due.month paid.name", "due.month due.year paid.month paid.name paid.year"},
		{"sale", "due.name paid.year", "due.month due.name due.year paid.year"},
		{"store", "region.zone.rank", "region.zone.rank region.zone.size"},
		{"store", "region.zone.size", "region.zone.size"},
		{"loose", "of.store.region.chief", "of.store.region.chief of.store.region.zone"},
		{"sale", "store.region.chief", "store.region.chief store.region.zone store.region.zone.name store.region.zone.rank store.region.zone.size"},
		{"store", "region.zone region.id", behind("region")},
		{"region", "zone", "zone zone.name zone.rank zone.size"},
		{"region", "zone.name", "zone zone.name zone.rank zone.size"},
		{"store", "town", "town"},
		{"store", "town region", "post " + behind("region") + " town"},
		{"store", "town region.id", "post " + behind("region") + " town"},
		{"store", "town post", "post town"},
		{"store", "type", "type"},
		{"loose", "of.store.town of.store.region", "of.store.post of.store.region of.store.region.chief of.store.region.id of.store.region.zone of.store.town"},
		{"loose", "of.store.town", "of.store.town"},
		{"sale", "what paid", day("paid") + " what"},
		{"sale", "what paid.no store.id", day("due") + " " + day("paid") + " " + store + " what"},
		{"sale", "what due", day("due") + " what"},
		{"loose", "m n", "m n of of.due of.due.month of.due.name of.due.no of.due.year of.nr of.paid of.paid.month of.paid.name of.paid.no of.paid.year " +
			"of.store of.store.id of.store.post of.store.region of.store.region.chief of.store.region.id of.store.region.zone of.store.town of.store.type of.what"},
	} {
		if got := text(fd.Closure(s, x.table, split(x.from))); got != x.want {
			t.Errorf("P10.1: Closure(%q, %q):\n%s, not\n%s", x.table, x.from, got, x.want)
		}
	}
}

// What is no way is passed over, however near to one it is.
func TestOthersPassedOver(t *testing.T) {
	s := of(t, star())
	for _, p := range []api.Path{
		nil, {}, {""}, {"due.no"}, {"due", ""}, {"", "due"}, {"due", "no", ""}, {".due"}, {"due."}, {"Due"}, {"due\x00"}, {"du"}, {"duel"}, {"sale", "due"},
		{"store", "region.zone", "rank"}, {"store", "region", "zone", "name", "x"}, {"store", "region", "zone", "name", ""},
		slices.Repeat(api.Path{"due"}, 1<<20), {strings.Repeat("d", 1<<20)}, {"\xff"}, {"nr", "what"},
	} {
		for _, from := range [][]api.Path{{p}, {p, p}, {p, {"what"}}, {{"what"}, p, {"what"}}} {
			want := ""
			if len(from) > 1 && !slices.Equal(from[1], p) || len(from) == 3 {
				want = "what"
			}
			if got := text(fd.Closure(s, "sale", from)); got != want {
				t.Errorf("P10.1: Closure(%.60q): %s, not %s", from, got, want)
			}
		}
		if fd.Determines(s, "sale", path.All(s, "sale"), p) {
			t.Errorf("P10.1: all determine %.60q", p)
		}
	}
}

// In which order, and how often, ways stand in from makes no difference.
func TestByCompareEachOnce(t *testing.T) {
	tables := []api.Table{
		{Name: "far", Key: "k", Cols: []api.Col{{Name: "k", Kind: api.VInt}, {Name: "a_", Kind: api.VInt}, {Name: "a", Kind: api.VInt}, {Name: "_", Kind: api.VInt}}},
		{Name: "t", Key: "b", Cols: []api.Col{
			{Name: "b", Kind: api.VInt}, {Name: "a0", Kind: api.VInt}, {Name: "a", Kind: api.VInt, To: "far"}, {Name: "a_", Kind: api.VInt}, {Name: "_", Kind: api.VInt},
		}},
	}
	s := of(t, tables)
	want := "_ a a._ a.a a.a_ a.k a0 a_ b"
	d := dice(3)
	for range 200 {
		from := d.someWays(path.All(s, "t"), 9)
		from = append(from, api.Path{"b"}, from[0], from[0], api.Path{"b"})
		if got := text(fd.Closure(s, "t", from)); got != want {
			t.Fatalf("P10.1: Closure(%s): %s, not %s", text(from), got, want)
		}
	}
	sales := of(t, star())
	from := split("what store.id paid.no")
	want = text(fd.Closure(sales, "sale", from))
	for _, l := range [][]api.Path{{from[1], from[2], from[0]}, {from[2], from[1], from[0]}, slices.Concat(from, from)} {
		if got := text(fd.Closure(sales, "sale", l)); got != want {
			t.Errorf("P10.1: Closure(%s): %s, not %s", text(l), got, want)
		}
	}
}

// Determines says of each way, and of what is none, whether the closure has it.
func TestDetermines(t *testing.T) {
	tables := star()
	s := of(t, tables)
	d := dice(5)
	for _, x := range tables {
		m := newModel(tables, x.Name)
		all := path.All(s, x.Name)
		others := []api.Path{nil, {}, {"none"}, {""}, {"due.no"}, {"due", "no", "x"}, make(api.Path, 5)}
		for n := range 6 {
			from := slices.Concat(d.someWays(all, n), others)
			in := map[string]bool{}
			for _, p := range m.closure(from) {
				in[path.Text(p)] = true
			}
			for _, to := range all {
				if got := fd.Determines(s, x.Name, from, to); got != in[path.Text(to)] {
					t.Errorf("P10.1: Determines(%q, %q, %q): %v", x.Name, from, to, got)
				}
			}
			for _, to := range others {
				if fd.Determines(s, x.Name, from, to) {
					t.Errorf("P10.1: Determines(%q, %q, %q): true", x.Name, from, to)
				}
			}
		}
	}
}

func TestDeterminesByHand(t *testing.T) {
	s := of(t, star())
	for _, x := range []struct {
		table, from, to string
		want            bool
	}{
		{"sale", "due", "due", true},
		{"sale", "due", "due.no", true},
		{"sale", "due.no", "due.year", true},
		{"sale", "due.name", "due.year", true},
		{"sale", "due.year", "due.name", false},
		{"sale", "due", "paid", false},
		{"sale", "nr", "store.region.zone.rank", true},
		{"sale", "", "nr", false},
		{"sale", "none", "none", false},
		{"none", "nr", "nr", false},
		{"", "", "", false},
	} {
		to := slices.Concat(split(x.to)...)
		if got := fd.Determines(s, x.table, split(x.from), to); got != x.want {
			t.Errorf("P10.1: Determines(%q, %q, %q): %v", x.table, x.from, x.to, got)
		}
	}
}

// The most ways that can be: all of them of the key, few of another column.
func TestWidest(t *testing.T) {
	for k := range api.MaxCols {
		key := "c" + strconv.Itoa(k)
		s := of(t, widest(key))
		for i := range api.MaxTables {
			table := "t" + strconv.Itoa(i)
			all := path.All(s, table)
			for _, from := range [][]api.Path{{{key}}, all, {slices.Repeat(api.Path{key}, min(i+1, api.MaxSteps))}} {
				if got := fd.Closure(s, table, from); !same(got, all) {
					t.Errorf("P10.1: Closure(%q) of %d: %d ways, not all %d", table, len(from), len(got), len(all))
				}
			}
			other := "c" + strconv.Itoa((k+1)%api.MaxCols)
			some := slices.DeleteFunc(slices.Clone(all), func(p api.Path) bool { return p[0] != other })
			if got := fd.Closure(s, table, []api.Path{{other}}); !same(got, some) {
				t.Errorf("P10.1: Closure(%q, %q): %d ways, not %d", table, other, len(got), len(some))
			}
		}
	}
}

// A table has what the Schema has at the time of the call.
func TestClosureOfNow(t *testing.T) {
	s := schema.New()
	for _, x := range star() {
		from := []api.Path{{x.Cols[0].Name}}
		if got := fd.Closure(s, x.Name, from); len(got) != 0 || fd.Determines(s, x.Name, from, from[0]) {
			t.Errorf("P0.5: Closure(%q) ahead of its Add: %q", x.Name, got)
		}
		s.Add(x)
		if got := fd.Closure(s, x.Name, from); len(got) == 0 || !fd.Determines(s, x.Name, from, from[0]) {
			t.Errorf("P0.5: Closure(%q) behind its Add: %q", x.Name, got)
		}
	}
}

func TestNoSchema(t *testing.T) {
	for _, s := range []*schema.Schema{nil, {}, schema.New()} {
		for _, table := range []string{"", "a", strings.Repeat("a", 1<<20)} {
			for _, from := range [][]api.Path{nil, {}, {nil}, {{}}, {{""}}, {{"a"}}, {{"a", "b"}, {"a"}}} {
				if got := fd.Closure(s, table, from); len(got) != 0 {
					t.Errorf("P10.1: Closure of no tables: %q", got)
				}
				for _, to := range slices.Concat(from, []api.Path{nil, {"a"}}) {
					if fd.Determines(s, table, from, to) {
						t.Errorf("P10.1: Determines(%q, %q) of no tables", from, to)
					}
				}
			}
		}
	}
}

// What is handed in stays as it is, its spare room too.
func TestArgumentsUnchanged(t *testing.T) {
	s := of(t, star())
	names := []string{"store", "region", "zone", "name", "spare", "spare"}
	wantNames := slices.Clone(names)
	for n := range len(names) + 1 {
		room := []api.Path{names[:n], {"what"}, names[:2], {"due", "no"}, {"spare"}, {"spare"}}
		wantRoom := slices.Clone(room)
		for k := range len(room) + 1 {
			fd.Closure(s, "sale", room[:k])
			fd.Determines(s, "sale", room[:k], names[:n])
			if !same(room, wantRoom) || !slices.Equal(names, wantNames) {
				t.Fatalf("P0.3: %q of %q turned %q of %q", wantRoom, wantNames, room, names)
			}
		}
	}
}

// What is written into from later, or into an answer, its spare room too, is
// seen nowhere else.
func TestAnswersApart(t *testing.T) {
	s := of(t, star())
	from := []api.Path{{"nr"}, {"due"}, {"store", "region", "zone", "name"}}
	want := fd.Closure(s, "sale", from)
	got := fd.Closure(s, "sale", from)
	for _, p := range from {
		for k := range p {
			p[k] = "written"
		}
	}
	if !same(got, want) {
		t.Fatal("P0.3: what is written into from is seen in the answer")
	}
	for i := range got {
		p := got[i][:cap(got[i])]
		for k := range p {
			p[k] = "late"
		}
		if !same(got[i+1:], want[i+1:]) {
			t.Fatalf("P0.3: writing into way %d of Closure is seen in another", i)
		}
	}
	got = got[:cap(got)]
	for i := range got {
		got[i] = api.Path{"late"}
	}
	again := fd.Closure(s, "sale", []api.Path{{"nr"}, {"due"}, {"store", "region", "zone", "name"}})
	if !same(again, want) {
		t.Errorf("P0.3: Closure: %q, not %q, behind what was written into an answer", again, want)
	}
	if from[0][0] != "written" {
		t.Error("P0.3: what is written into an answer is seen in from")
	}
}

// Long lists, and long paths in them, are gone through once.
func TestLong(t *testing.T) {
	s := of(t, star())
	from := slices.Repeat(split("due.name none what due.none"), 1<<18)
	from = append(from, make(api.Path, 1<<20), api.Path{strings.Repeat("n", math.MaxInt16)})
	if got := text(fd.Closure(s, "sale", from)); got != "due.month due.name due.year what" {
		t.Errorf("P10.1: Closure of a long list: %s", got)
	}
	if !fd.Determines(s, "sale", from, api.Path{"due", "year"}) || fd.Determines(s, "sale", from, make(api.Path, 1<<20)) {
		t.Error("P10.1: Determines of a long list")
	}
}
