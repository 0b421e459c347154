package fd_test

import (
	"slices"
	"testing"

	"asterism/api"
	"asterism/fd"
	"asterism/path"
	"asterism/schema"
)

// rows are some tables' rows, by their names: a value a column, 0 for none.
type rows map[string][][]int

// put adds row to x's rows, if all that must hold holds then: what has Must is
// there, no key twice, none that is not there, and x's deps.
func (r rows) put(tables []api.Table, x api.Table, row []int) {
	for i, c := range x.Cols {
		if row[i] == 0 && must(x, c.Name) {
			return
		}
		if c.To != "" && row[i] != 0 && r.keyed(tables, c.To, row[i]) == nil {
			return
		}
	}
	if k := place(x, x.Key); k >= 0 && r.keyed(tables, x.Name, row[k]) != nil {
		return
	}
	for _, other := range r[x.Name] {
		for _, d := range x.Deps {
			unlike := func(l string) bool { return other[place(x, l)] != row[place(x, l)] }
			if unlike(d.Right) && !slices.ContainsFunc(d.Left, unlike) {
				return
			}
		}
	}
	r[x.Name] = append(r[x.Name], row)
}

func named(tables []api.Table, name string) api.Table {
	return tables[slices.IndexFunc(tables, func(t api.Table) bool { return t.Name == name })]
}

func place(t api.Table, col string) int {
	return slices.IndexFunc(t.Cols, func(c api.Col) bool { return c.Name == col })
}

// keyed answers the row of the table that has that key, or nil.
func (r rows) keyed(tables []api.Table, name string, key int) []int {
	k := place(named(tables, name), named(tables, name).Key)
	i := slices.IndexFunc(r[name], func(row []int) bool { return row[k] == key })
	if i < 0 {
		return nil
	}
	return r[name][i]
}

// follow answers the value at the way's end, 0 where the way ends ahead of it.
func (r rows) follow(tables []api.Table, x api.Table, row []int, p api.Path) int {
	n := row[place(x, p[0])]
	if n == 0 || len(p) == 1 {
		return n
	}
	to := x.Cols[place(x, p[0])].To
	return r.follow(tables, named(tables, to), r.keyed(tables, to, n), p[1:])
}

// anyRows answers rows of which all that must hold holds.
func (d *dice) anyRows(tables []api.Table) rows {
	r := rows{}
	for _, x := range tables {
		for range 40 {
			row := make([]int, len(x.Cols))
			for i := range row {
				row[i] = d.below(4)
			}
			r.put(tables, x, row)
		}
	}
	return r
}

// alike holds two rows of x against each other: if they are alike in all of
// from, they are in each way of the closure. It answers how many ways, over
// those of from, that said something of.
func (r rows) alike(t *testing.T, tables []api.Table, x api.Table, from, closure []api.Path) int {
	n := 0
	for i, a := range r[x.Name] {
		for _, b := range r[x.Name][:i] {
			unlike := func(p api.Path) bool { return r.follow(tables, x, a, p) != r.follow(tables, x, b, p) }
			if slices.ContainsFunc(from, unlike) {
				continue
			}
			if k := slices.IndexFunc(closure, unlike); k >= 0 {
				t.Fatalf("P10.1: %+v, %v: rows %v and %v of %s are alike in %s, not in %s",
					tables, r, a, b, x.Name, text(from), path.Text(closure[k]))
			}
			n += len(closure) - len(from)
		}
	}
	return n
}

// Rows that are alike in from are alike in the closure.
func TestAlikeRows(t *testing.T) {
	d := dice(7)
	said := 0
	for range 400 {
		tables := d.anyTables(4)
		s := of(t, tables)
		r := d.anyRows(tables)
		for _, x := range tables {
			said += alikeIn(t, &d, s, tables, r, x)
		}
	}
	if said < 100000 {
		t.Errorf("only %d ways were held against each other", said)
	}
}

// alikeIn takes each way of x alone, and some together.
func alikeIn(t *testing.T, d *dice, s *schema.Schema, tables []api.Table, r rows, x api.Table) int {
	said := 0
	all := path.All(s, x.Name)
	for i, p := range all[:min(len(all), 60)] {
		from := []api.Path{p}
		for _, q := range d.someWays(all, i%3) {
			if !slices.ContainsFunc(from, func(p api.Path) bool { return slices.Equal(p, q) }) {
				from = append(from, q)
			}
		}
		said += r.alike(t, tables, x, from[:1], fd.Closure(s, x.Name, from[:1]))
		said += r.alike(t, tables, x, from, fd.Closure(s, x.Name, from))
	}
	return said
}
