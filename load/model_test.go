package load_test

import (
	"maps"
	"slices"

	"asterism/api"
	"asterism/val"
)

// list is a table as a list of rows.
type list struct {
	form api.Table
	rows map[int][]api.Value
	next int
}

// model is tables as lists of rows: what the chapters of batch and check say
// of them, said plainly.
type model []*list

func empty(tables []api.Table) model {
	var m model
	for _, form := range tables {
		form.Cols = slices.Clone(form.Cols)
		for k := range form.Cols {
			if form.Cols[k].Name == form.Key {
				form.Cols[k].Must = true
			}
		}
		m = append(m, &list{form: form, rows: map[int][]api.Value{}})
	}
	return m
}

func (m model) copied() model {
	var own model
	for _, l := range m {
		rows := map[int][]api.Value{}
		for id, vals := range l.rows {
			rows[id] = slices.Clone(vals)
		}
		own = append(own, &list{form: l.form, rows: rows, next: l.next})
	}
	return own
}

func (m model) table(name string) *list {
	for _, l := range m {
		if l.form.Name == name {
			return l
		}
	}
	return nil
}

func (l *list) col(name string) int {
	return slices.IndexFunc(l.form.Cols, func(c api.Col) bool { return c.Name == name })
}

func (l *list) takes(k int, v api.Value) bool {
	return val.May(v) && (v.Kind == api.VNull || v.Kind == l.form.Cols[k].Kind)
}

func (l *list) insert(vals []api.Value) (int, api.Errno) {
	if l.next == 65536 {
		return 0, api.ErrLimit
	}
	if len(vals) != len(l.form.Cols) {
		return 0, api.ErrForm
	}
	for k, v := range vals {
		if !l.takes(k, v) {
			return 0, api.ErrType
		}
	}
	l.rows[l.next] = slices.Clone(vals)
	l.next++
	return l.next - 1, api.OK
}

func (l *list) set(id int, col string, v api.Value) api.Errno {
	vals, ok := l.rows[id]
	k := l.col(col)
	switch {
	case !ok:
		return api.ErrNone
	case k < 0:
		return api.ErrName
	case !l.takes(k, v):
		return api.ErrType
	}
	vals[k] = v
	return api.OK
}

func (m model) do(op api.Op) (int, api.Errno) {
	l := m.table(op.Table)
	switch {
	case op.Do != 1 && op.Do != 2 && op.Do != 3, op.Do == 3 && len(op.Vals) != 1:
		return 0, api.ErrForm
	case l == nil:
		return 0, api.ErrName
	case op.Do == 1:
		return l.insert(op.Vals)
	case op.Do == 3:
		return 0, l.set(op.Id, op.Col, op.Vals[0])
	}
	if _, ok := l.rows[op.Id]; !ok {
		return 0, api.ErrNone
	}
	delete(l.rows, op.Id)
	return 0, api.OK
}

func (m model) apply(ops []api.Op) ([]int, api.Fault) {
	if len(ops) < 1 || len(ops) > 40 {
		return nil, api.Fault{Err: api.ErrLimit}
	}
	var ids []int
	for k, op := range ops {
		id, err := m.do(op)
		if err != api.OK {
			return nil, api.Fault{Err: err, At: k, Table: op.Table}
		}
		if op.Do == 1 {
			ids = append(ids, id)
		}
	}
	return ids, api.Fault{}
}

// faults answers all that does not hold, in the chapter's order.
func (m model) faults() []api.Fault {
	var all []api.Fault
	for _, l := range m {
		name := l.form.Name
		if len(l.rows) > 64 {
			all = append(all, api.Fault{Err: api.ErrLimit, Table: name})
		}
		for k, c := range l.form.Cols {
			if l.words(k) > 40 {
				all = append(all, api.Fault{Err: api.ErrLimit, Table: name, Col: c.Name})
			}
		}
		for _, id := range slices.Sorted(maps.Keys(l.rows)) {
			for _, f := range m.ofRow(l, id) {
				f.Table, f.Row = name, id
				all = append(all, f)
			}
		}
	}
	return all
}

func (l *list) words(k int) int {
	unlike := map[string]bool{}
	for _, vals := range l.rows {
		if vals[k].Kind == api.VText {
			unlike[vals[k].S] = true
		}
	}
	return len(unlike)
}

func (m model) ofRow(l *list, id int) []api.Fault {
	var all []api.Fault
	vals := l.rows[id]
	for k, c := range l.form.Cols {
		if c.Must && vals[k].Kind == api.VNull {
			all = append(all, api.Fault{Err: api.ErrNull, Col: c.Name})
		}
	}
	if l.form.Key != "" && l.lesserLike(id, []string{l.form.Key}, "") {
		all = append(all, api.Fault{Err: api.ErrKey, Col: l.form.Key})
	}
	for k, c := range l.form.Cols {
		if c.To != "" && vals[k].Kind != api.VNull && !m.table(c.To).names(vals[k]) {
			all = append(all, api.Fault{Err: api.ErrRef, Col: c.Name})
		}
	}
	for _, dep := range l.form.Deps {
		if l.lesserLike(id, dep.Left, dep.Right) {
			all = append(all, api.Fault{Err: api.ErrDep, Col: dep.Right})
		}
	}
	return all
}

// lesserLike asks whether a row with a lesser number is like id in all of the
// columns like and, if there is one, not in the column unlike.
func (l *list) lesserLike(id int, like []string, unlike string) bool {
	for other, vals := range l.rows {
		same := func(col string) bool { return vals[l.col(col)] == l.rows[id][l.col(col)] }
		alike := !slices.ContainsFunc(like, func(col string) bool { return !same(col) })
		if other < id && alike && (unlike == "" || !same(unlike)) {
			return true
		}
	}
	return false
}

func (l *list) names(key api.Value) bool {
	for _, vals := range l.rows {
		if vals[l.col(l.form.Key)] == key {
			return true
		}
	}
	return false
}

// load answers another model, and what a Load answers beside it.
func (m model) load(ops []api.Op) (model, []int, api.Fault) {
	own := m.copied()
	ids, f := own.apply(ops)
	if f.Err != api.OK {
		return nil, nil, f
	}
	if all := own.faults(); len(all) > 0 {
		f = all[0]
		f.At = len(ops)
		return nil, nil, f
	}
	return own, ids, api.Fault{}
}
