package show

import (
	"slices"

	"asterism/api"
	"asterism/path"
)

// Eq: see the chapter. It asks of statements that may not be, too.
func Eq(a, b api.Stmt) bool {
	return a.Kind == b.Kind &&
		eqTable(a.Table, b.Table) &&
		slices.EqualFunc(a.Ops, b.Ops, eqOp) &&
		eqSum(a.Sum, b.Sum) &&
		a.Name == b.Name &&
		eqQuery(a.Query, b.Query)
}

func eqTable(a, b api.Table) bool {
	return a.Name == b.Name &&
		slices.Equal(a.Cols, b.Cols) &&
		a.Key == b.Key &&
		slices.EqualFunc(a.Deps, b.Deps, eqDep)
}

func eqDep(a, b api.Dep) bool { return slices.Equal(a.Left, b.Left) && a.Right == b.Right }

func eqOp(a, b api.Op) bool {
	return a.Do == b.Do &&
		a.Table == b.Table &&
		a.Id == b.Id &&
		a.Col == b.Col &&
		slices.Equal(a.Vals, b.Vals)
}

func eqSum(a, b api.Sum) bool {
	return a.Name == b.Name &&
		a.From == b.From &&
		slices.EqualFunc(a.By, b.By, eqPath) &&
		slices.EqualFunc(a.Keep, b.Keep, eqAgg)
}

func eqQuery(a, b api.Query) bool {
	return a.From == b.From &&
		slices.EqualFunc(a.Where, b.Where, eqCond) &&
		a.Mode == b.Mode &&
		slices.EqualFunc(a.By, b.By, eqPath) &&
		slices.EqualFunc(a.Show, b.Show, eqAgg) &&
		slices.Equal(a.Having, b.Having) &&
		slices.Equal(a.Order, b.Order) &&
		a.Limit == b.Limit &&
		a.Using == b.Using
}

func eqPath(a, b api.Path) bool { return path.Compare(a, b) == 0 }

func eqAgg(a, b api.Agg) bool { return a.Fn == b.Fn && eqPath(a.Path, b.Path) }

func eqCond(a, b api.Cond) bool { return eqPath(a.Path, b.Path) && a.Op == b.Op && a.Val == b.Val }
