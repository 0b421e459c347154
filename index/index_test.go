package index_test

import (
	"fmt"
	"maps"
	"slices"
	"strings"
	"testing"

	"asterism/api"
	"asterism/bitmap"
	"asterism/data"
	"asterism/index"
)

type vals = []api.Value

// filled has keys that are VNull, keys that name no row, a key twice, rows that
// are gone and ways that end in all kinds of values.
func filled(t *testing.T) pair {
	t.Helper()
	return made(t, star()...).
		insert(t, "zone", vals{num(7), text("b")}, vals{null(), text("c")}, vals{num(-7), text("")}).
		insert(t, "region", vals{text("b"), num(1)}, vals{text("c"), num(2)}, vals{text("gone"), num(3)}, vals{null(), num(4)}).
		insert(t, "store", vals{num(9), null()}, vals{num(1), num(1)}, vals{num(2), num(2)}, vals{num(3), num(3)}, vals{num(1), num(4)}).
		remove(t, "store", 0).
		insert(t, "day", vals{num(0), text("tue")}, vals{num(1), null()}).
		insert(t, "sale",
			vals{num(1), num(0), num(1), text("tea"), num(3)},
			vals{num(9), num(1), num(1), text("nut"), num(3)},
			vals{num(2), null(), num(0), text("tea"), num(-1 << 63)},
			vals{null(), num(0), num(5), null(), num(1<<63 - 1)},
			vals{num(1), num(0), null(), text(""), null()},
			vals{num(3), num(1), num(0), text("tea"), num(0)}).
		remove(t, "sale", 1)
}

func runs(l ...[2]int) [][2]int { return l }

func TestStar(t *testing.T) {
	x := filled(t)
	for _, c := range []struct {
		table string
		p     api.Path
		all   vals
		rows  [][][2]int // of each value
	}{
		{"sale", api.Path{"what"}, vals{null(), text(""), text("tea")}, [][][2]int{runs([2]int{3, 4}), runs([2]int{4, 5}), runs([2]int{0, 1}, [2]int{2, 3}, [2]int{5, 6})}},
		{"sale", api.Path{"store"}, vals{null(), num(1), num(2), num(3)}, [][][2]int{runs([2]int{3, 4}), runs([2]int{0, 1}, [2]int{4, 5}), runs([2]int{2, 3}), runs([2]int{5, 6})}},
		{"sale", api.Path{"store", "region"}, vals{null(), num(1), num(2), num(3)}, [][][2]int{runs([2]int{3, 4}), runs([2]int{0, 1}, [2]int{4, 5}), runs([2]int{2, 3}), runs([2]int{5, 6})}},
		{"sale", api.Path{"store", "region", "zone"}, vals{null(), text("b"), text("c"), text("gone")}, [][][2]int{runs([2]int{3, 4}), runs([2]int{0, 1}, [2]int{4, 5}), runs([2]int{2, 3}), runs([2]int{5, 6})}},
		{"sale", api.Path{"store", "region", "zone", "size"}, vals{null(), num(7)}, [][][2]int{runs([2]int{2, 4}, [2]int{5, 6}), runs([2]int{0, 1}, [2]int{4, 5})}},
		{"sale", api.Path{"due", "name"}, vals{null(), text("tue")}, [][][2]int{runs([2]int{0, 1}, [2]int{3, 5}), runs([2]int{2, 3}, [2]int{5, 6})}},
		{"sale", api.Path{"day", "name"}, vals{null(), text("tue")}, [][][2]int{runs([2]int{2, 3}, [2]int{5, 6}), runs([2]int{0, 1}, [2]int{3, 5})}},
		{"store", api.Path{"id"}, vals{num(1), num(2), num(3)}, [][][2]int{runs([2]int{1, 2}, [2]int{4, 5}), runs([2]int{2, 3}), runs([2]int{3, 4})}},
		{"zone", api.Path{"size"}, vals{null(), num(-7), num(7)}, [][][2]int{runs([2]int{1, 2}), runs([2]int{2, 3}), runs([2]int{0, 1})}},
	} {
		own := x.index(t, way{c.table, c.p})
		if got := own.Values(); !slices.Equal(got, c.all) {
			t.Errorf("P16.1: %v: Values: %v, not %v", c.p, got, c.all)
		}
		for k, v := range c.all {
			if got := own.Get(v).Runs(); !slices.Equal(got, c.rows[k]) {
				t.Errorf("P16.1: %v: Get(%v): %v, not %v", c.p, v, got, c.rows[k])
			}
		}
	}
	x.indexes(t)
}

func TestTest(t *testing.T) {
	x := filled(t)
	for _, c := range []struct {
		p    api.Path
		op   int
		v    api.Value
		want [][2]int
	}{
		{api.Path{"n"}, api.OpEq, num(3), runs([2]int{0, 1})},
		{api.Path{"n"}, api.OpNe, num(3), runs([2]int{2, 4}, [2]int{5, 6})},
		{api.Path{"n"}, api.OpLt, num(3), runs([2]int{2, 3}, [2]int{5, 6})},
		{api.Path{"n"}, api.OpLe, num(3), runs([2]int{0, 1}, [2]int{2, 3}, [2]int{5, 6})},
		{api.Path{"n"}, api.OpGt, num(3), runs([2]int{3, 4})},
		{api.Path{"n"}, api.OpGe, num(3), runs([2]int{0, 1}, [2]int{3, 4})},
		{api.Path{"n"}, api.OpLt, num(-1 << 63), nil},
		{api.Path{"n"}, api.OpGt, num(1<<63 - 1), nil},
		{api.Path{"n"}, api.OpNull, num(3), runs([2]int{4, 5})},
		{api.Path{"n"}, api.OpNotNull, null(), runs([2]int{0, 1}, [2]int{2, 4}, [2]int{5, 6})},
		{api.Path{"n"}, api.OpEq, null(), nil},
		{api.Path{"n"}, api.OpNe, null(), nil},
		{api.Path{"n"}, api.OpLe, null(), nil},
		{api.Path{"n"}, api.OpGe, null(), nil},
		{api.Path{"n"}, api.OpNe, text("3"), nil},
		{api.Path{"n"}, api.OpLt, text("3"), nil},
		{api.Path{"n"}, 0, num(3), nil},
		{api.Path{"n"}, 9, num(3), nil},
		{api.Path{"what"}, api.OpGt, text(""), runs([2]int{0, 1}, [2]int{2, 3}, [2]int{5, 6})},
		{api.Path{"what"}, api.OpNe, text("tea"), runs([2]int{4, 5})},
		{api.Path{"what"}, api.OpNe, num(0), nil},
		{api.Path{"store", "region", "zone", "size"}, api.OpNull, null(), runs([2]int{2, 4}, [2]int{5, 6})},
		{api.Path{"store", "region", "zone", "size"}, api.OpGe, num(7), runs([2]int{0, 1}, [2]int{4, 5})},
		{api.Path{"due", "name"}, api.OpLe, text("tue"), runs([2]int{2, 3}, [2]int{5, 6})},
	} {
		if got := x.index(t, way{"sale", c.p}).Test(c.op, c.v).Runs(); !slices.Equal(got, c.want) {
			t.Errorf("P16.1: %v: Test(%d, %v): %v, not %v", c.p, c.op, c.v, got, c.want)
		}
	}
}

func TestErrors(t *testing.T) {
	d := filled(t).d
	for _, c := range []struct {
		d     *data.DB
		table string
		p     string
		err   api.Errno
	}{
		{d, "sale", "", api.ErrLimit},
		{d, "sale", "store region zone size size", api.ErrLimit},
		{d, "none", "", api.ErrLimit},
		{d, "sale", strings.Repeat("none ", 1000), api.ErrLimit},
		{d, "none", "n", api.ErrName},
		{d, "", "n", api.ErrName},
		{d, "sale", "none", api.ErrName},
		{d, "sale", "none n none", api.ErrName},
		{d, "sale", "store none", api.ErrName},
		{d, "sale", "store none none", api.ErrName},
		{d, "sale", "store region zone none", api.ErrName},
		{d, "zone", "n", api.ErrName},
		{d, "sale", "n none", api.ErrRef},
		{d, "sale", "what n", api.ErrRef},
		{d, "sale", "store id zone", api.ErrRef},
		{d, "sale", "store region zone size", api.OK},
		{nil, "sale", "", api.ErrLimit},
		{nil, "sale", "n", api.ErrName},
		{&data.DB{}, "sale", "n", api.ErrName},
		{data.New(), "", "n", api.ErrName},
	} {
		x, err := index.New(c.d, c.table, strings.Fields(c.p))
		if err != c.err || (x == nil) != (err != api.OK) {
			t.Errorf("P16.1: New(%s, %.50s): %v, %v, not %v", c.table, c.p, x == nil, err, c.err)
		}
	}
	if x, err := index.New(d, "sale", api.Path{}); x != nil || err != api.ErrLimit {
		t.Errorf("P16.1: New of a way without names: %v, %v", x == nil, err)
	}
}

// TestAsItWas: an index is of d as it was when it was made or updated.
func TestAsItWas(t *testing.T) {
	for what, change := range map[string]func(x pair){
		"insert":             func(x pair) { x.insert(t, "sale", vals{num(1), num(0), num(0), text("oil"), num(5)}) },
		"delete":             func(x pair) { x.remove(t, "sale", 0) },
		"update":             func(x pair) { x.set(t, "sale", 0, "n", num(4)) },
		"the last of a word": func(x pair) { x.set(t, "sale", 4, "what", text("tea")) },
		"a key":              func(x pair) { x.set(t, "sale", 3, "store", num(2)) },
		"a key to null":      func(x pair) { x.set(t, "sale", 0, "store", null()) },
		"what a key names":   func(x pair) { x.set(t, "day", 0, "name", text("mon")) },
		"another key":        func(x pair) { x.set(t, "day", 0, "no", num(5)) },
		"a row named":        func(x pair) { x.remove(t, "day", 0) },
		"a row to be named":  func(x pair) { x.insert(t, "day", vals{num(5), text("wed")}) },
		"the least row":      func(x pair) { x.remove(t, "store", 1) },
		"far behind":         func(x pair) { x.set(t, "zone", 0, "size", num(8)) },
		"far behind, a key":  func(x pair) { x.set(t, "zone", 2, "name", text("gone")) },
		"on the way":         func(x pair) { x.set(t, "region", 0, "zone", text("c")) },
		"all":                func(x pair) { x.remove(t, "sale", 0, 2, 3, 4, 5) },
		"all that is named":  func(x pair) { x.remove(t, "zone", 0, 1, 2).remove(t, "day", 0, 1) },
		"nothing":            func(x pair) {},
		"one more, gone":     func(x pair) { x.insert(t, "zone", vals{null(), null()}).remove(t, "zone", 3) },
	} {
		x := filled(t)
		was := x.copied()
		l := x.indexes(t)
		change(x)
		was.right(t, l, "ahead of Update: "+what)
		update(l, x.d)
		x.right(t, l, "behind Update: "+what)
		x.indexes(t)
		update(l, was.d)
		was.right(t, l, "updated back: "+what)
		change(was)
		update(l, x.d.Copy())
		x.right(t, l, "of a copy: "+what)
	}
}

// TestOneByOne: what is done to one index is done to no other.
func TestOneByOne(t *testing.T) {
	x := filled(t)
	l, m := x.indexes(t), x.indexes(t)
	value := *l[0]
	y := x.copied().set(t, "sale", 0, "n", num(4)).set(t, "day", 0, "name", null()).remove(t, "zone", 0)
	update(l, y.d)
	y.right(t, l, "updated")
	x.right(t, m, "another")
	right(t, &value, x.have(x.ways()[0].table, x.ways()[0].p), "a value copy")
}

// TestMixed: indexes follow whatever is done to the tables.
func TestMixed(t *testing.T) {
	for seed := range uint32(60) {
		r := seed
		x := made(t, star()...)
		l := x.indexes(t)
		for range 12 {
			was := x.copied()
			for range 1 + next(&r, 8) {
				x.mix(t, &r)
			}
			if next(&r, 3) == 0 {
				was.right(t, l, "as it was")
			}
			update(l, x.d)
			x.right(t, l, fmt.Sprint("mixed ", seed))
		}
		x.indexes(t)
	}
}

// mix does one thing, so that keys often name a row.
func (x pair) mix(t *testing.T, r *uint32) {
	t.Helper()
	l := x.tables[next(r, len(x.tables))]
	ids := slices.Sorted(maps.Keys(l.rows))
	some := func(kind int) api.Value {
		switch {
		case next(r, 5) == 0:
			return null()
		case kind == api.VInt:
			return num(int64(next(r, 5) - 1))
		}
		return text([]string{"", "a", "b", "tea"}[next(r, 4)])
	}
	switch n := next(r, 8); {
	case len(ids) > 0 && n == 0:
		x.remove(t, l.form.Name, ids[next(r, len(ids))])
	case len(ids) > 0 && n < 4:
		c := l.form.Cols[next(r, len(l.form.Cols))]
		x.set(t, l.form.Name, ids[next(r, len(ids))], c.Name, some(c.Kind))
	default:
		var row vals
		for _, c := range l.form.Cols {
			row = append(row, some(c.Kind))
		}
		x.insert(t, l.form.Name, row)
	}
}

// told tells all that may be asked of an index.
func told(x *index.Index) string {
	var b strings.Builder
	l := x.Values()
	fmt.Fprintln(&b, l)
	for _, v := range append(l, others()...) {
		fmt.Fprintln(&b, x.Get(v).Runs())
		for _, op := range ops() {
			fmt.Fprintln(&b, x.Test(op, v).Runs())
		}
	}
	return b.String()
}

func TestNothing(t *testing.T) {
	d := filled(t).d
	var none *index.Index
	nothing := told(&index.Index{})
	if strings.ContainsAny(nothing, "0123456789") {
		t.Errorf("P16.1: a zero Index has %s", nothing)
	}
	for _, d := range []*data.DB{nil, {}, data.New(), d} {
		none.Update(d)
		if got := told(none); got != nothing {
			t.Errorf("P16.1: a nil Index has %s", got)
		}
		zero := &index.Index{}
		zero.Update(d)
		if got := told(zero); got != nothing {
			t.Errorf("P0.1: a zero Index has %s", got)
		}
	}
}

// TestOtherSchema: where the schema is not the same, there is no such way, as
// New would say.
func TestOtherSchema(t *testing.T) {
	x := filled(t)
	l := x.indexes(t)
	nothing := told(nil)
	other := made(t, api.Table{Name: "sale", Cols: []api.Col{{Name: "other", Kind: api.VInt}}}).
		insert(t, "sale", vals{num(1)}, vals{num(2)})
	for k, d := range []*data.DB{nil, {}, data.New(), other.d} {
		update(l, d)
		for n, own := range l {
			if got := told(own); got != nothing {
				t.Errorf("P0.1: Update of the DB %d: %v has %s", k, x.ways()[n], got)
			}
		}
		update(l, x.d)
		x.right(t, l, "and back")
	}
}

// TestEmpty: tables without rows, be they never asked for.
func TestEmpty(t *testing.T) {
	x := made(t, star()...)
	l := x.indexes(t)
	late := api.Table{Name: "late", Cols: []api.Col{{Name: "at", Kind: api.VInt, To: "store"}, {Name: "n", Kind: api.VInt}}}
	if x.d.Schema().Add(late) != api.OK {
		t.Fatal("Add")
	}
	p := api.Path{"at", "region"}
	own, err := index.New(x.d, "late", p)
	if err != api.OK {
		t.Fatalf("P16.1: New of a table that was added to the schema: %v", err)
	}
	right(t, own, have{}, "late")
	x.d.Table("late").Insert(vals{num(1), num(2)})
	right(t, own, have{}, "late, as it was")
	own.Update(x.d)
	right(t, own, have{0: null()}, "late")
	x.insert(t, "store", vals{num(1), num(6)})
	own.Update(x.d)
	right(t, own, have{0: num(6)}, "late")
	update(l, x.d) // late's ways are behind all others
	for k, own := range l {
		right(t, own, x.have(x.ways()[k].table, x.ways()[k].p), x.ways()[k])
	}
}

// TestHandedIn: what is handed in is neither changed nor kept.
func TestHandedIn(t *testing.T) {
	x := filled(t)
	room := api.Path{"store", "region", "zone", "size"}
	l := append(make(api.Path, 0, 8), room[:2]...)
	was := slices.Clone(l[:8])
	h := x.have("sale", room[:2])
	own, two := x.index(t, way{"sale", l}), x.index(t, way{"sale", room[:2]})
	if !slices.Equal(l[:8], was) || room[2] != "zone" {
		t.Error("P0.3: New changed what was handed in")
	}
	l[0], l[1] = "due", "no"
	room[1] = "id"
	right(t, own, h, "a way that is written into")
	own.Update(x.d)
	two.Update(x.d)
	right(t, own, h, "a way that is written into, updated")
	right(t, two, h, "a way that is written into, updated")
}

// TestHandedOut: what is handed out is new memory.
func TestHandedOut(t *testing.T) {
	x := filled(t)
	l := x.indexes(t)
	for k, w := range x.ways() {
		first, second := l[k].Values(), l[k].Values()
		clear(first[:cap(first)])
		for _, v := range second {
			rows := l[k].Get(v)
			list := rows.Runs()
			clear(list[:cap(list)])
			list = l[k].Test(api.OpNotNull, v).Runs()
			clear(list[:cap(list)])
		}
		h := x.have(w.table, w.p)
		if !slices.Equal(second, h.values()) {
			t.Errorf("P0.3: %v: Values written into: %v", w, second)
		}
		right(t, l[k], h, w)
	}
	kept := x.index(t, way{"sale", api.Path{"what"}})
	rows, tested := kept.Get(text("tea")), kept.Test(api.OpGe, text(""))
	kept.Update(x.copied().remove(t, "sale", 0, 5).d)
	if !bitmap.Eq(rows, bitmap.Of(0, 2, 5)) || !bitmap.Eq(tested, bitmap.Of(0, 2, 4, 5)) {
		t.Errorf("P0.3: what was told is %v, %v behind Update", rows.Runs(), tested.Runs())
	}
}

// TestAsking: asking an index changes nothing, and New and Update change d in
// nothing.
func TestAsking(t *testing.T) {
	x := filled(t)
	l := x.indexes(t)
	for k, own := range l {
		if first := told(own); told(own) != first || told(x.index(t, x.ways()[k])) != first {
			t.Errorf("P0.5: %v tells other things when asked again", x.ways()[k])
		}
	}
	update(l, x.d)
	update(l, x.d)
	x.right(t, l, "updated twice")
	for _, own := range x.tables {
		rows := x.d.Table(own.form.Name)
		if rows.Next() != own.next || rows.Live().Count() != len(own.rows) {
			t.Errorf("P0.5: %s has other rows", own.form.Name)
		}
		for id, vals := range own.rows {
			if got, ok := rows.Row(id); !ok || !slices.Equal(got, vals) {
				t.Errorf("P0.5: %s: row %d is %v, not %v", own.form.Name, id, got, vals)
			}
		}
	}
}

// TestMany: as many rows as a table may have, of unlike and of like values.
func TestMany(t *testing.T) {
	const n = 1 << 16
	x := made(t,
		api.Table{Name: "one", Key: "id", Cols: []api.Col{{Name: "id", Kind: api.VInt}, {Name: "odd", Kind: api.VInt}}},
		api.Table{Name: "many", Cols: []api.Col{{Name: "one", Kind: api.VInt, To: "one"}, {Name: "n", Kind: api.VInt}}},
	).insert(t, "one", vals{num(0), num(0)}, vals{num(1), num(1)})
	for id := range n {
		x.insert(t, "many", vals{num(int64(id % 3)), num(int64(n - id))})
	}
	x.remove(t, "many", 7, n-2)
	own := x.index(t, way{"many", api.Path{"n"}})
	l := own.Values()
	if len(l) != n-2 || l[0] != num(1) || l[1] != num(3) || l[n-3] != num(n) {
		t.Errorf("P16.1: of many rows there are %d values", len(l))
	}
	if got := own.Test(api.OpLe, num(4)).Runs(); !slices.Equal(got, runs([2]int{n - 4, n - 2}, [2]int{n - 1, n})) {
		t.Errorf("P16.1: Test of many rows: %v", got)
	}
	if got := own.Test(api.OpNotNull, null()).Runs(); !slices.Equal(got, runs([2]int{0, 7}, [2]int{8, n - 2}, [2]int{n - 1, n})) {
		t.Errorf("P16.1: Test of many rows: %v", got)
	}
	p := api.Path{"one", "odd"}
	right(t, x.index(t, way{"many", p}), x.have("many", p), "many rows")
}
