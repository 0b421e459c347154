// Package val: values: see doc/01-val.md.
package val

import (
	"cmp"
	"slices"
	"strconv"
	"strings"

	"asterism/api"
)

// May: see the chapter.
func May(v api.Value) bool {
	switch v.Kind {
	case api.VNull:
		return v.N == 0 && v.S == ""
	case api.VInt:
		return v.S == ""
	case api.VText:
		return v.N == 0 && mayText(v.S)
	}
	return false
}

// mayText asks the length first, so that a huge text costs nothing.
func mayText(s string) bool {
	if len(s) > api.MaxText {
		return false
	}
	for i := 0; i < len(s); i++ {
		if s[i] < ' ' || s[i] > '~' || s[i] == '\'' {
			return false
		}
	}
	return true
}

// Compare: see the chapter. It orders values that may not be, too, so that
// it is an order of all there are.
func Compare(a, b api.Value) int {
	return cmp.Or(
		cmp.Compare(a.Kind, b.Kind),
		cmp.Compare(a.N, b.N),
		strings.Compare(a.S, b.S),
	)
}

// Eq: see the chapter.
func Eq(a, b api.Value) bool { return Compare(a, b) == 0 }

// Test: see the chapter.
func Test(op int, a, b api.Value) bool {
	switch op {
	case api.OpNull:
		return a.Kind == api.VNull
	case api.OpNotNull:
		return a.Kind != api.VNull
	}
	if a.Kind == api.VNull || a.Kind != b.Kind {
		return false
	}
	return holds(op, Compare(a, b))
}

// holds asks op of what Compare said.
func holds(op, order int) bool {
	switch op {
	case api.OpEq:
		return order == 0
	case api.OpNe:
		return order != 0
	case api.OpLt:
		return order < 0
	case api.OpLe:
		return order <= 0
	case api.OpGt:
		return order > 0
	case api.OpGe:
		return order >= 0
	}
	return false
}

// Text: see the chapter. A value that may not be has no text: whatever stood
// there would read as another value, or as none.
func Text(v api.Value) string {
	if !May(v) {
		return ""
	}
	switch v.Kind {
	case api.VInt:
		return strconv.FormatInt(v.N, 10)
	case api.VText:
		return "'" + v.S + "'"
	}
	return "null"
}

// Row: see the chapter.
func Row(a, b []api.Value) int { return slices.CompareFunc(a, b, Compare) }

// Name: see the chapter.
func Name(s string) bool {
	return len(s) <= api.MaxName && spelled(s) && !keyWord(s)
}

// spelled asks of bytes, not of runes: a byte above 127 is in no name.
func spelled(s string) bool {
	for i := 0; i < len(s); i++ {
		digit := '0' <= s[i] && s[i] <= '9'
		letter := 'a' <= s[i] && s[i] <= 'z' || s[i] == '_'
		if !letter && (!digit || i == 0) {
			return false
		}
	}
	return s != ""
}

func keyWord(s string) bool {
	switch s {
	case "table", "key", "fd", "int", "text", "must", "to",
		"load", "insert", "delete", "update",
		"summary", "on", "by", "keep", "drop",
		"from", "where", "and", "is", "not", "null",
		"rollup", "cube", "show", "having", "order", "desc", "limit", "using", "base",
		"count", "sum", "min", "max", "avg", "distinct", "rows":
		return true
	}
	return false
}
