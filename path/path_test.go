package path_test

import (
	"cmp"
	"math"
	"slices"
	"strconv"
	"strings"
	"testing"

	"asterism/api"
	"asterism/path"
	"asterism/schema"
)

// star is a fact's table (sale) with ways of four names, two ways to one
// table (day), a table without a Key (loose), and names that are in two.
func star() []api.Table {
	return []api.Table{
		{Name: "zone", Key: "name", Cols: []api.Col{
			{Name: "name", Kind: api.VText}, {Name: "size", Kind: api.VInt},
		}},
		{Name: "region", Key: "id", Cols: []api.Col{
			{Name: "zone", Kind: api.VText, To: "zone"}, {Name: "id", Kind: api.VInt}, {Name: "_", Kind: api.VText},
		}},
		{Name: "store", Key: "id", Cols: []api.Col{
			{Name: "id", Kind: api.VInt}, {Name: "region", Kind: api.VInt, Must: true, To: "region"},
		}},
		{Name: "day", Key: "no", Cols: []api.Col{
			{Name: "year", Kind: api.VInt}, {Name: "no", Kind: api.VInt},
		}},
		{Name: "sale", Cols: []api.Col{
			{Name: "due", Kind: api.VInt, To: "day"}, {Name: "store", Kind: api.VInt, To: "store"},
			{Name: "from_", Kind: api.VInt, Must: true, To: "day"}, {Name: "zone", Kind: api.VText, To: "zone"},
			{Name: "day", Kind: api.VInt}, {Name: "what", Kind: api.VText},
		}},
		{Name: "loose", Cols: []api.Col{
			{Name: "of", Kind: api.VInt, To: "store"}, {Name: "n", Kind: api.VInt},
		}},
	}
}

// wide has as many tables and columns as may be; each column names the key of
// the table ahead, so that there are as many ways as can be.
func wide() []api.Table {
	var tables []api.Table
	for i := range api.MaxTables {
		t := api.Table{Name: "t" + strconv.Itoa(i), Key: "c3"}
		for k := range api.MaxCols {
			c := api.Col{Name: "c" + strconv.Itoa((k*5+i)%api.MaxCols), Kind: api.VInt}
			if i > 0 {
				c.To = tables[i-1].Name
			}
			t.Cols = append(t.Cols, c)
		}
		tables = append(tables, t)
	}
	return tables
}

func of(t *testing.T, tables []api.Table) *schema.Schema {
	t.Helper()
	s := schema.New()
	for _, x := range tables {
		if err := s.Add(x); err != api.OK {
			t.Fatalf("Add(%+v): %v", x, err)
		}
	}
	return s
}

// model is Col's sentence, held upon the list of the tables themselves.
func model(tables []api.Table, table string, p api.Path) (api.Col, string, api.Errno) {
	if len(p) < 1 || len(p) > 4 {
		return api.Col{}, "", api.ErrLimit
	}
	i := slices.IndexFunc(tables, func(t api.Table) bool { return t.Name == table })
	if i < 0 {
		return api.Col{}, "", api.ErrName
	}
	k := slices.IndexFunc(tables[i].Cols, func(c api.Col) bool { return c.Name == p[0] })
	if k < 0 {
		return api.Col{}, "", api.ErrName
	}
	c := tables[i].Cols[k]
	if len(p) == 1 {
		c.Must = c.Must || c.Name == tables[i].Key
		return c, table, api.OK
	}
	if c.To == "" {
		return api.Col{}, "", api.ErrRef
	}
	return model(tables, c.To, p[1:])
}

// each hands out all paths of at most n of the names.
func each(names []string, n int, yield func(api.Path)) {
	var goOn func(p api.Path)
	goOn = func(p api.Path) {
		yield(slices.Clone(p))
		if len(p) == n {
			return
		}
		for _, name := range names {
			goOn(append(slices.Clip(p), name))
		}
	}
	goOn(nil)
}

// words are all names that the tables' columns have, once each, and some that
// none has.
func words(tables []api.Table) []string {
	names := []string{"", "none"}
	for _, t := range tables {
		for _, c := range t.Cols {
			if !slices.Contains(names, c.Name) {
				names = append(names, c.Name)
			}
		}
	}
	return names
}

// Col against the chapter's sentence, over all paths from each table and from
// none.
func TestColAllPaths(t *testing.T) {
	tables := star()
	s := of(t, tables)
	from := []string{"", "none"}
	for _, x := range tables {
		from = append(from, x.Name)
	}
	told := map[api.Errno]int{}
	each(words(tables), 4, func(p api.Path) {
		for _, table := range from {
			c, has, err := path.Col(s, table, p)
			wantCol, wantHas, wantErr := model(tables, table, p)
			if c != wantCol || has != wantHas || err != wantErr {
				t.Fatalf("P9.1: Col(%q, %q): %+v, %q, %v, not %+v, %q, %v", table, p, c, has, err, wantCol, wantHas, wantErr)
			}
			told[err]++
		}
	})
	for _, err := range []api.Errno{api.OK, api.ErrLimit, api.ErrName, api.ErrRef} {
		if told[err] == 0 {
			t.Errorf("P9.1: Col: %v never told", err)
		}
	}
}

func TestColByHand(t *testing.T) {
	s := of(t, star())
	for _, x := range []struct {
		table string
		p     api.Path
		col   api.Col
		has   string
		err   api.Errno
	}{
		{"sale", api.Path{"what"}, api.Col{Name: "what", Kind: api.VText}, "sale", api.OK},
		{"sale", api.Path{"from_"}, api.Col{Name: "from_", Kind: api.VInt, Must: true, To: "day"}, "sale", api.OK},
		{"sale", api.Path{"from_", "no"}, api.Col{Name: "no", Kind: api.VInt, Must: true}, "day", api.OK},
		{"sale", api.Path{"due", "year"}, api.Col{Name: "year", Kind: api.VInt}, "day", api.OK},
		{"sale", api.Path{"store", "region", "zone", "size"}, api.Col{Name: "size", Kind: api.VInt}, "zone", api.OK},
		{"sale", api.Path{"store", "region", "zone"}, api.Col{Name: "zone", Kind: api.VText, To: "zone"}, "region", api.OK},
		{"loose", api.Path{"of", "region", "zone", "name"}, api.Col{Name: "name", Kind: api.VText, Must: true}, "zone", api.OK},

		{table: "sale", err: api.ErrLimit},
		{table: "sale", p: api.Path{}, err: api.ErrLimit},
		{table: "sale", p: api.Path{"store", "region", "zone", "name", "x"}, err: api.ErrLimit},
		{table: "sale", p: api.Path{"day", "x", "x", "x", "x"}, err: api.ErrLimit},
		{table: "none", err: api.ErrLimit},
		{table: "none", p: make(api.Path, 5), err: api.ErrLimit},
		{table: "none", p: make(api.Path, 4), err: api.ErrName},
		{table: "none", p: api.Path{"what"}, err: api.ErrName},
		{table: "", p: api.Path{"what"}, err: api.ErrName},
		{table: "", p: api.Path{""}, err: api.ErrName},
		{table: "sale", p: api.Path{""}, err: api.ErrName},
		{table: "sale", p: api.Path{"year"}, err: api.ErrName},
		{table: "sale", p: api.Path{"due.year"}, err: api.ErrName},
		{table: "sale", p: api.Path{"STORE"}, err: api.ErrName},
		{table: "sale", p: api.Path{"day", "year"}, err: api.ErrRef},
		{table: "sale", p: api.Path{"day", "none", "none"}, err: api.ErrRef},
		{table: "sale", p: api.Path{"day", ""}, err: api.ErrRef},
		{table: "sale", p: api.Path{"none", "day", "year"}, err: api.ErrName},
		{table: "sale", p: api.Path{"store", "none", "zone"}, err: api.ErrName},
		{table: "sale", p: api.Path{"store", "id", "none"}, err: api.ErrRef},
		{table: "sale", p: api.Path{"store", "region", "zone", "none"}, err: api.ErrName},
		{table: "sale", p: api.Path{"store", "region", "id", "none"}, err: api.ErrRef},
	} {
		c, has, err := path.Col(s, x.table, x.p)
		if c != x.col || has != x.has || err != x.err {
			t.Errorf("P9.1: Col(%q, %q): %+v, %q, %v, not %+v, %q, %v", x.table, x.p, c, has, err, x.col, x.has, x.err)
		}
	}
}

func TestText(t *testing.T) {
	for _, x := range []struct {
		p    api.Path
		want string
	}{
		{nil, ""},
		{api.Path{}, ""},
		{api.Path{""}, ""},
		{api.Path{"n"}, "n"},
		{api.Path{"store", "region"}, "store.region"},
		{api.Path{"a", "b", "c", "d"}, "a.b.c.d"},
		{api.Path{"a", "b", "c", "d", "e", "f"}, "a.b.c.d.e.f"},
		{api.Path{"", ""}, "."},
		{api.Path{"", "a", ""}, ".a."},
		{api.Path{".", ".."}, "...."},
		{api.Path{"\xff\x00", " é"}, "\xff\x00. é"},
	} {
		if got := path.Text(x.p); got != x.want {
			t.Errorf("P9.1: Text(%q): %q, not %q", x.p, got, x.want)
		}
	}
	long := strings.Repeat("x", 1<<20)
	many := slices.Repeat(api.Path{"ab"}, 1<<20)
	if got := path.Text(api.Path{long, long}); got != long+"."+long {
		t.Error("P9.1: Text of long names")
	}
	if got := path.Text(many); got != strings.Repeat("ab.", 1<<20-1)+"ab" {
		t.Error("P9.1: Text of many names")
	}
}

// below is Compare's sentence, byte by byte.
func below(a, b api.Path) int {
	for i := range a {
		if i == len(b) {
			return 1
		}
		x, y := []byte(a[i]), []byte(b[i])
		for k := range x {
			if k == len(y) {
				return 1
			}
			if x[k] != y[k] {
				return cmp.Compare(x[k], y[k])
			}
		}
		if len(x) < len(y) {
			return -1
		}
	}
	if len(a) < len(b) {
		return -1
	}
	return 0
}

func TestCompareAllPaths(t *testing.T) {
	names := []string{"", "a", "ab", "b", "B", "a\x00", "a!", "a.", "a_", "a\x7f", "a\xff", "\xff", "é"}
	var all []api.Path
	each(names, 2, func(p api.Path) { all = append(all, p) })
	each([]string{"", "a", "b"}, 5, func(p api.Path) { all = append(all, p) })
	for _, a := range all {
		for _, b := range all {
			if got, want := path.Compare(a, b), below(a, b); got != want {
				t.Fatalf("P9.1: Compare(%q, %q): %d, not %d", a, b, got, want)
			}
		}
	}
}

func TestCompareByHand(t *testing.T) {
	many := slices.Repeat(api.Path{"a"}, 1<<20)
	rising := []api.Path{
		nil, {""}, {"", ""}, {"", "a"}, {"A"}, {"a"}, {"a", ""}, {"a", "a"}, {"a", "a", "a"}, many[:len(many)-1], many,
		{"a", "b"}, {"a", "b", "a"}, {"a\x00"}, {"a!"}, {"a.a"}, {"a_"}, {"a_", "a"}, {"aa"}, {"b"}, {"\x7f"}, {"\x80"}, {"\xff"},
	}
	for i, a := range rising {
		for k, b := range rising {
			if got, want := path.Compare(a, b), cmp.Compare(i, k); got != want {
				t.Errorf("P9.1: Compare of %d and %d: %d, not %d", i, k, got, want)
			}
		}
	}
	if path.Compare(nil, api.Path{}) != 0 || path.Compare(api.Path{}, nil) != 0 {
		t.Error("P9.1: Compare of nil and of an empty one: not 0")
	}
}

// All has just the paths for which Col is OK, each once, in Compare's order.
func TestAllAreOK(t *testing.T) {
	for _, tables := range [][]api.Table{star(), wide(), nil} {
		s := of(t, tables)
		from := []string{"", "none", "STORE", strings.Repeat("x", 1<<20)}
		for _, x := range tables {
			from = append(from, x.Name)
		}
		want := make([][]api.Path, len(from))
		each(words(tables), 4, func(p api.Path) {
			for i, table := range from {
				if _, _, err := model(tables, table, p); err == api.OK {
					want[i] = append(want[i], p)
				}
			}
		})
		for i, table := range from {
			slices.SortFunc(want[i], below)
			if got := path.All(s, table); !same(got, want[i]) {
				t.Errorf("P9.1: All(%q): %q, not %q", table, got, want[i])
			}
			for _, p := range path.All(s, table) {
				if _, _, err := path.Col(s, table, p); err != api.OK {
					t.Errorf("P9.1: All(%q) has %q: %v", table, p, err)
				}
			}
		}
	}
}

func same(a, b []api.Path) bool {
	return slices.EqualFunc(a, b, func(p, q api.Path) bool { return slices.Equal(p, q) })
}

func TestAllByHand(t *testing.T) {
	s := of(t, star())
	for _, x := range []struct{ table, want string }{
		{"zone", "name size"},
		{"region", "_ id zone zone.name zone.size"},
		{"store", "id region region._ region.id region.zone region.zone.name region.zone.size"},
		{"day", "no year"},
		{"sale", "day due due.no due.year from_ from_.no from_.year store store.id store.region store.region._ store.region.id " +
			"store.region.zone store.region.zone.name store.region.zone.size what zone zone.name zone.size"},
		{"none", ""},
		{"", ""},
	} {
		var texts []string
		for _, p := range path.All(s, x.table) {
			texts = append(texts, path.Text(p))
		}
		if got := strings.Join(texts, " "); got != x.want {
			t.Errorf("P9.1: All(%q): %s, not %s", x.table, got, x.want)
		}
	}
}

func TestAllAtMostFourNames(t *testing.T) {
	s := of(t, wide())
	for i, want := range []int{6, 6 + 36, 6 + 36 + 216, 1554, 1554, 1554, 1554, 1554} {
		all := path.All(s, "t"+strconv.Itoa(i))
		if len(all) != want {
			t.Errorf("P9.1: All of table %d: %d ways, not %d", i, len(all), want)
		}
		for _, p := range all {
			if len(p) > api.MaxSteps {
				t.Errorf("P9.1: All of table %d has %q", i, p)
			}
		}
	}
}

// All follows what is added to the Schema later.
func TestAllOfNow(t *testing.T) {
	s := schema.New()
	for _, x := range star() {
		if got := path.All(s, x.Name); len(got) != 0 {
			t.Errorf("P0.5: All(%q) ahead of its Add: %q", x.Name, got)
		}
		if _, _, err := path.Col(s, x.Name, api.Path{x.Cols[0].Name}); err != api.ErrName {
			t.Errorf("P0.5: Col(%q) ahead of its Add: %v", x.Name, err)
		}
		s.Add(x)
		if got := path.All(s, x.Name); len(got) < len(x.Cols) {
			t.Errorf("P0.5: All(%q) behind its Add: %q", x.Name, got)
		}
	}
}

func TestNoSchema(t *testing.T) {
	for _, s := range []*schema.Schema{nil, {}, schema.New()} {
		for p, want := range map[string]api.Errno{"": api.ErrLimit, "a": api.ErrName, "a a": api.ErrName, "a a a a a": api.ErrLimit} {
			if c, has, err := path.Col(s, "a", strings.Fields(p)); c != (api.Col{}) || has != "" || err != want {
				t.Errorf("P9.1: Col of no tables, %q: %+v, %q, %v, not %v", p, c, has, err, want)
			}
		}
		if got := path.All(s, "a"); len(got) != 0 {
			t.Errorf("P9.1: All of no tables: %q", got)
		}
		if got := path.All(s, ""); len(got) != 0 {
			t.Errorf("P9.1: All of no tables: %q", got)
		}
	}
}

// What is handed in stays as it is, its spare room too.
func TestArgumentsUnchanged(t *testing.T) {
	s := of(t, star())
	room := []string{"store", "region", "zone", "name", "spare", "spare"}
	want := slices.Clone(room)
	for n := range len(room) + 1 {
		p := api.Path(room[:n])
		path.Col(s, "sale", p)
		path.Text(p)
		path.Compare(p, room[1:n+1-min(n, 1)])
		if !slices.Equal(room, want) {
			t.Fatalf("P0.3: %q turned %q", want, room)
		}
	}
}

// What is written into an answer, its spare room too, is seen nowhere else.
func TestAnswersApart(t *testing.T) {
	s := of(t, star())
	want := path.All(s, "sale")
	got := path.All(s, "sale")
	for i := range got {
		p := got[i][:cap(got[i])]
		for k := range p {
			p[k] = "written"
		}
		if !same(got[i+1:], want[i+1:]) {
			t.Fatalf("P0.3: writing into way %d of All is seen in another", i)
		}
		for k := range got[:i] {
			if slices.ContainsFunc(got[k], func(name string) bool { return name != "written" }) {
				t.Fatalf("P0.3: way %d of All is seen in way %d", i, k)
			}
		}
	}
	got = got[:cap(got)]
	for i := range got {
		got[i] = api.Path{"written"}
	}
	if again := path.All(s, "sale"); !same(again, want) {
		t.Errorf("P0.3: All: %q, not %q, behind what was written into an answer", again, want)
	}
}

// What is long is told of at once.
func TestLong(t *testing.T) {
	s := of(t, star())
	long := make(api.Path, 1<<24)
	if _, _, err := path.Col(s, "sale", long); err != api.ErrLimit {
		t.Errorf("P9.1: Col of a long path: %v", err)
	}
	name := strings.Repeat("n", math.MaxInt16)
	if _, _, err := path.Col(s, "sale", api.Path{name}); err != api.ErrName {
		t.Errorf("P9.1: Col of a long name: %v", err)
	}
	if _, _, err := path.Col(s, name, api.Path{"id"}); err != api.ErrName {
		t.Errorf("P9.1: Col of a long table's name: %v", err)
	}
}
