package show

import (
	"slices"

	"asterism/api"
	"asterism/val"
)

const maxList = 100

// May: see the chapter. What is left of x without the part that counts is
// held against a zero one by Eq, for which an empty list is as zero as none.
func May(x api.Stmt) bool {
	may := false
	rest := x
	rest.Kind = 0
	switch x.Kind {
	case api.STable:
		may, rest.Table = mayTable(x.Table), api.Table{}
	case api.SLoad:
		may, rest.Ops = some(x.Ops, mayOp), nil
	case api.SSummary:
		may, rest.Sum = maySum(x.Sum), api.Sum{}
	case api.SDrop:
		may, rest.Name = val.Name(x.Name), ""
	case api.SQuery:
		may, rest.Query = mayQuery(x.Query), api.Query{}
	}
	return may && Eq(rest, api.Stmt{})
}

func mayTable(t api.Table) bool {
	return val.Name(t.Name) && some(t.Cols, mayCol) && mayOptional(t.Key) && all(t.Deps, mayDep)
}

func mayCol(c api.Col) bool {
	return val.Name(c.Name) && (c.Kind == api.VInt || c.Kind == api.VText) && mayOptional(c.To)
}

func mayOptional(name string) bool { return name == "" || val.Name(name) }

func mayDep(d api.Dep) bool { return some(d.Left, val.Name) && val.Name(d.Right) }

func mayOp(o api.Op) bool {
	if !val.Name(o.Table) || o.Id < 0 {
		return false
	}
	switch o.Do {
	case api.DoInsert:
		return o.Id == 0 && o.Col == "" && some(o.Vals, val.May)
	case api.DoDelete:
		return o.Col == "" && len(o.Vals) == 0
	case api.DoUpdate:
		return val.Name(o.Col) && len(o.Vals) == 1 && val.May(o.Vals[0])
	}
	return false
}

func maySum(x api.Sum) bool {
	return val.Name(x.Name) && val.Name(x.From) && all(x.By, mayPath) && some(x.Keep, mayAgg)
}

func mayQuery(q api.Query) bool {
	return val.Name(q.From) &&
		all(q.Where, mayCond) &&
		all(q.By, mayPath) && mayMode(q) &&
		some(q.Show, mayAgg) &&
		all(q.Having, mayHave) &&
		all(q.Order, mayOrd) &&
		q.Limit >= 0 &&
		(q.Using == "base" || mayOptional(q.Using))
}

func mayMode(q api.Query) bool {
	switch q.Mode {
	case api.ByAll:
		return true
	case api.ByRollup, api.ByCube:
		return len(q.By) > 0
	}
	return false
}

func mayPath(p api.Path) bool { return some(p, val.Name) }

func mayAgg(a api.Agg) bool {
	if a.Fn == api.FnRows {
		return len(a.Path) == 0
	}
	return function(a.Fn) != "" && mayPath(a.Path)
}

func mayCond(c api.Cond) bool {
	if !mayPath(c.Path) {
		return false
	}
	if c.Op == api.OpNull || c.Op == api.OpNotNull {
		return c.Val == api.Value{}
	}
	return sign(c.Op) != "" && val.May(c.Val)
}

func mayHave(h api.Have) bool { return h.Agg >= 0 && sign(h.Op) != "" && val.May(h.Val) }

func mayOrd(o api.Ord) bool { return o.Col >= 0 }

func some[T any](l []T, may func(T) bool) bool { return len(l) > 0 && all(l, may) }

// all asks the length first, so that a huge list costs nothing.
func all[T any](l []T, may func(T) bool) bool {
	return len(l) <= maxList && !slices.ContainsFunc(l, func(x T) bool { return !may(x) })
}
