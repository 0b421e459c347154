package show_test

import (
	"fmt"
	"reflect"
	"slices"
	"strconv"
	"strings"
	"testing"

	"asterism/api"
	"asterism/lex"
	"asterism/show"
	"asterism/val"
)

// samples has a statement of each Kind in which each list has something and
// whatever may stand there stands.
func samples() map[int]api.Stmt {
	aggs := []api.Agg{
		agg(api.FnRows), agg(api.FnCount, "a", "b"), agg(api.FnSum, "c"), agg(api.FnMin, "d"),
		agg(api.FnMax, "e"), agg(api.FnAvg, "f"), agg(api.FnDistinct, "a", "b", "c", "d"),
	}
	return map[int]api.Stmt{
		api.STable: table(api.Table{
			Name: "t",
			Cols: []api.Col{{Name: "a", Kind: api.VInt, Must: true, To: "u"}, {Name: "b", Kind: api.VText}},
			Key:  "a",
			Deps: []api.Dep{{Left: []string{"a", "c"}, Right: "b"}, {Left: []string{"d"}, Right: "a"}},
		}),
		api.SLoad: load(insert(num(-1), text("a b"), api.Value{}), remove(7), update(0, "b", text("x"))),
		api.SSummary: summary(api.Sum{
			Name: "s", From: "t", By: []api.Path{way("a", "b"), way("c")}, Keep: slices.Clone(aggs),
		}),
		api.SDrop: drop("s"),
		api.SQuery: query(api.Query{
			From:  "t",
			Where: []api.Cond{cond(api.OpLe, num(7), "a", "b"), cond(api.OpNe, text("x"), "c"), cond(api.OpNotNull, api.Value{}, "d")},
			Mode:  api.ByCube, By: []api.Path{way("a", "b", "c"), way("d")}, Show: slices.Clone(aggs),
			Having: []api.Have{{Agg: 1, Op: api.OpGt, Val: num(3)}, {Op: api.OpEq, Val: text("x")}},
			Order:  []api.Ord{{Col: 2, Desc: true}, {}}, Limit: 5, Using: "s",
		}),
	}
}

// visit hands on each number, text, bool and list within v, with the names
// of the fields that lead there.
func visit(v reflect.Value, where string, f func(where string, v reflect.Value)) {
	switch v.Kind() {
	case reflect.Struct:
		for i := range v.NumField() {
			visit(v.Field(i), where+"."+v.Type().Field(i).Name, f)
		}
		return
	case reflect.Slice:
		for i := range v.Len() {
			visit(v.Index(i), where, f)
		}
	}
	f(where, v)
}

// places is what visit hands on of *x.
func places(x *api.Stmt) (l []place) {
	visit(reflect.ValueOf(x).Elem(), "", func(where string, v reflect.Value) { l = append(l, place{where, v}) })
	return l
}

type place struct {
	where string
	v     reflect.Value
}

// copied shares nothing with x.
func copied(x api.Stmt) api.Stmt {
	return made(reflect.ValueOf(x), func(n int) bool { return false }).Interface().(api.Stmt)
}

// made copies v; of a list of n none asks whether it is nil in the copy.
func made(v reflect.Value, none func(n int) bool) reflect.Value {
	c := reflect.New(v.Type()).Elem()
	switch v.Kind() {
	case reflect.Struct:
		for i := range v.NumField() {
			c.Field(i).Set(made(v.Field(i), none))
		}
	case reflect.Slice:
		if v.IsNil() || none(v.Len()) {
			return c
		}
		c.Set(reflect.MakeSlice(v.Type(), v.Len(), v.Len()))
		for i := range v.Len() {
			c.Index(i).Set(made(v.Index(i), none))
		}
	default:
		c.Set(v)
	}
	return c
}

// plain is x with nil for each empty list.
func plain(x api.Stmt) api.Stmt {
	return made(reflect.ValueOf(x), func(n int) bool { return n == 0 }).Interface().(api.Stmt)
}

func same(a, b api.Stmt) bool { return reflect.DeepEqual(plain(a), plain(b)) }

// parts names the part of each Kind that counts.
func parts() []string { return []string{"", "Table", "Ops", "Sum", "Name", "Query"} }

// may is the chapter's sentence, clause by clause, each over the whole of x.
func may(x api.Stmt) bool {
	if x.Kind < 1 || x.Kind > 5 {
		return false
	}
	for i, part := range parts() {
		if i > 0 && i != x.Kind && !zero(reflect.ValueOf(x).FieldByName(part)) {
			return false
		}
	}
	ok := true
	visit(reflect.ValueOf(x).FieldByName(parts()[x.Kind]), "."+parts()[x.Kind], func(where string, v reflect.Value) {
		ok = ok && mayStand(where[strings.LastIndex(where, ".")+1:], where, v)
	})
	return ok && mayTogether(x)
}

func zero(v reflect.Value) bool {
	is := true
	visit(v, "", func(where string, v reflect.Value) {
		if v.Kind() == reflect.Slice {
			is = is && v.Len() == 0
		} else {
			is = is && v.IsZero()
		}
	})
	return is
}

// mayStand asks what can be asked of one place alone.
func mayStand(field, where string, v reflect.Value) bool {
	switch v.Kind() {
	case reflect.Slice:
		must := strings.Contains(" .Table.Cols .Ops .Table.Deps.Left .Sum.Keep .Query.Show ", " "+where+" ")
		return v.Len() <= 100 && (v.Len() > 0 || !must)
	case reflect.String:
		switch where {
		case ".Table.Key", ".Table.Cols.To":
			return v.String() == "" || val.Name(v.String())
		case ".Query.Using":
			return v.String() == "" || v.String() == "base" || val.Name(v.String())
		}
		return field == "S" || where == ".Ops.Col" || val.Name(v.String())
	case reflect.Int:
		n := v.Int()
		switch where {
		case ".Table.Cols.Kind":
			return n == api.VInt || n == api.VText
		case ".Query.Where.Op":
			return 1 <= n && n <= 8
		case ".Query.Having.Op":
			return 1 <= n && n <= 6
		}
		switch field {
		case "Fn":
			return 1 <= n && n <= 7
		case "Do":
			return 1 <= n && n <= 3
		case "Mode":
			return n <= 2
		}
		return n >= 0
	}
	return true
}

// mayTogether asks what hangs on more than one place.
func mayTogether(x api.Stmt) bool {
	ok := x.Query.Mode >= 0 && (x.Query.Mode == 0 || len(x.Query.By) > 0)
	for _, p := range slices.Concat(x.Sum.By, x.Query.By) {
		ok = ok && len(p) > 0
	}
	for _, a := range slices.Concat(x.Sum.Keep, x.Query.Show) {
		ok = ok && (a.Fn == 1) == (len(a.Path) == 0)
	}
	for _, c := range x.Query.Where {
		ok = ok && len(c.Path) > 0 && val.May(c.Val) && (c.Op < 7 || c.Val.Kind == api.VNull)
	}
	for _, h := range x.Query.Having {
		ok = ok && val.May(h.Val)
	}
	for _, o := range x.Ops {
		for _, v := range o.Vals {
			ok = ok && val.May(v)
		}
		ok = ok && []bool{
			o.Do == 1 && o.Id == 0 && o.Col == "" && len(o.Vals) > 0,
			o.Do == 2 && o.Col == "" && len(o.Vals) == 0,
			o.Do == 3 && val.Name(o.Col) && len(o.Vals) == 1,
		}[o.Do-1]
	}
	return ok
}

// words has the words of a statement that may be.
func words(x api.Stmt) []string {
	switch x.Kind {
	case api.STable:
		return tableWords(x.Table)
	case api.SLoad:
		l := []string{"load"}
		for i, o := range x.Ops {
			l = append(l, comma(i)...)
			l = append(l, opWords(o)...)
		}
		return l
	case api.SSummary:
		l := []string{"summary", x.Sum.Name, "on", x.Sum.From}
		l = append(l, byWords(0, x.Sum.By)...)
		return append(l, aggWords("keep", x.Sum.Keep)...)
	case api.SDrop:
		return []string{"drop", x.Name}
	}
	return queryWords(x.Query)
}

func comma(i int) []string {
	if i == 0 {
		return nil
	}
	return []string{","}
}

func tableWords(t api.Table) []string {
	l := []string{"table", t.Name, "("}
	for i, c := range t.Cols {
		l = append(l, comma(i)...)
		l = append(l, c.Name, []string{"", "int", "text"}[c.Kind])
		if c.Must {
			l = append(l, "must")
		}
		if c.To != "" {
			l = append(l, "to", c.To)
		}
	}
	l = append(l, ")")
	if t.Key != "" {
		l = append(l, "key", t.Key)
	}
	for _, d := range t.Deps {
		l = append(l, "fd")
		for i, name := range d.Left {
			l = append(append(l, comma(i)...), name)
		}
		l = append(l, "->", d.Right)
	}
	return l
}

func opWords(o api.Op) []string {
	switch o.Do {
	case api.DoInsert:
		l := []string{"insert", o.Table, "("}
		for i, v := range o.Vals {
			l = append(append(l, comma(i)...), val.Text(v))
		}
		return append(l, ")")
	case api.DoDelete:
		return []string{"delete", o.Table, strconv.Itoa(o.Id)}
	}
	return []string{"update", o.Table, strconv.Itoa(o.Id), o.Col, "=", val.Text(o.Vals[0])}
}

func pathWords(p api.Path) []string {
	l := []string{p[0]}
	for _, name := range p[1:] {
		l = append(l, ".", name)
	}
	return l
}

func byWords(mode int, by []api.Path) []string {
	if len(by) == 0 {
		return nil
	}
	l := [][]string{{"by"}, {"by", "rollup"}, {"by", "cube"}}[mode]
	for i, p := range by {
		l = append(append(l, comma(i)...), pathWords(p)...)
	}
	return l
}

func aggWords(ahead string, aggs []api.Agg) []string {
	l := []string{ahead}
	for i, a := range aggs {
		l = append(append(l, comma(i)...), []string{"", "rows", "count", "sum", "min", "max", "avg", "distinct"}[a.Fn])
		if a.Fn > 1 {
			l = append(append(append(l, "("), pathWords(a.Path)...), ")")
		}
	}
	return l
}

func queryWords(q api.Query) []string {
	signs := []string{"", "=", "!=", "<", "<=", ">", ">="}
	l := []string{"from", q.From}
	for i, c := range q.Where {
		l = append(append(l, []string{"where", "and"}[min(i, 1)]), pathWords(c.Path)...)
		switch c.Op {
		case api.OpNull:
			l = append(l, "is", "null")
		case api.OpNotNull:
			l = append(l, "is", "not", "null")
		default:
			l = append(l, signs[c.Op], val.Text(c.Val))
		}
	}
	l = append(append(l, byWords(q.Mode, q.By)...), aggWords("show", q.Show)...)
	for i, h := range q.Having {
		l = append(l, []string{"having", "and"}[min(i, 1)], "#", strconv.Itoa(h.Agg), signs[h.Op], val.Text(h.Val))
	}
	for i, o := range q.Order {
		l = append(l, []string{"order", ","}[min(i, 1)], "$", strconv.Itoa(o.Col))
		if o.Desc {
			l = append(l, "desc")
		}
	}
	if q.Limit > 0 {
		l = append(l, "limit", strconv.Itoa(q.Limit))
	}
	if q.Using != "" {
		l = append(l, "using", q.Using)
	}
	return l
}

// laid is the chapter's sentence on blanks.
func laid(l []string) string {
	text := ""
	for i, word := range l {
		if i > 0 && blank(l[i-1], word) {
			text += " "
		}
		text += word
	}
	return text
}

func blank(a, b string) bool {
	switch a {
	case "(", ".", "#", "$":
		return false
	case "count", "sum", "min", "max", "avg", "distinct":
		return b != "("
	}
	return b != "," && b != ")" && b != "."
}

// told writes a statement, of a long one the beginning.
func told(x api.Stmt) string { return fmt.Sprintf("%.2000s", fmt.Sprintf("%#v", x)) }

// agrees holds May and Text of x against the models, and the text's words
// against those that lex finds in it.
func agrees(t *testing.T, x api.Stmt) {
	t.Helper()
	want := may(x)
	if show.May(x) != want {
		t.Fatalf("P18.1: May is not %v of %s", want, told(x))
	}
	text := show.Text(x)
	if !want {
		if text != "" {
			t.Fatalf("P18.1: Text is %q of %s", text, told(x))
		}
		return
	}
	l := words(x)
	if text != laid(l) {
		t.Fatalf("P18.1: Text is %q, not %q", text, laid(l))
	}
	tokens, at := lex.Scan(text)
	if at != -1 || len(tokens) != len(l)+1 {
		t.Fatalf("P18.1: %q has other words: %v, %d", text, tokens, at)
	}
	for i, word := range l {
		if tokens[i].Text != word {
			t.Fatalf("P18.1: %q has %q, not %q", text, tokens[i].Text, word)
		}
	}
}

// alike holds Eq against the model, and against the texts: unlike ones have unlike texts.
func alike(t *testing.T, a, b api.Stmt) {
	t.Helper()
	want := same(a, b)
	if show.Eq(a, b) != want || show.Eq(b, a) != want {
		t.Fatalf("P18.1: Eq is not %v of %s and %s", want, told(a), told(b))
	}
	if show.May(a) && show.May(b) && (show.Text(a) == show.Text(b)) != want {
		t.Fatalf("P18.1: %q and %q: they are the same: %v", show.Text(a), show.Text(b), want)
	}
}

func strange() []string {
	return []string{
		"", "a", "z", "_", "a9_", "abcdefghijkl", "abcdefghijklm", "A", "aB", "9", "9a", "a b", " a", "a ", "a.b", "a,", "a(", "it's",
		"é", "\x00", "a\n", "\xff", "~", "{", "`", "base", "Base", "rows", "null", "and", "table", "key", "desc", "show", "not",
	}
}

// Each number, text and bool of the samples set to what may stand there and
// what may not, one at a time, and all that follows from it.
func TestEachPlaceOfEachStatement(t *testing.T) {
	for _, x := range samples() {
		agrees(t, x)
		want := copied(x)
		for _, p := range places(&x) {
			old := reflect.New(p.v.Type()).Elem()
			old.Set(p.v)
			for _, other := range others(p.v) {
				p.v.Set(other)
				agrees(t, x)
				alike(t, x, want)
			}
			p.v.Set(old)
		}
		alike(t, x, want)
		if !same(x, want) {
			t.Fatalf("%s isn't as it was", told(x))
		}
	}
}

// others has other values that may be set into the place v.
func others(v reflect.Value) (l []reflect.Value) {
	switch v.Kind() {
	case reflect.String:
		for _, s := range strange() {
			l = append(l, reflect.ValueOf(s))
		}
	case reflect.Int, reflect.Int64:
		for _, n := range []int64{-1 << 63, -1 << 32, -2, -1, 0, 1, 2, 3, 4, 5, 6, 7, 8, 9, 10, 99, 257, 1 << 32, 1<<63 - 1} {
			l = append(l, reflect.ValueOf(n).Convert(v.Type()))
		}
	case reflect.Bool:
		l = append(l, reflect.ValueOf(true), reflect.ValueOf(false))
	case reflect.Slice:
		l = append(l, reflect.Zero(v.Type()), reflect.MakeSlice(v.Type(), 0, 3), reflect.MakeSlice(v.Type(), 1, 1))
		for _, n := range []int{1, 2, 99, 100, 101} {
			l = append(l, longer(v, n))
		}
		l = append(l, backwards(v))
	}
	return l
}

// longer is a list of n of those of v, again and again; of none zero ones.
func longer(v reflect.Value, n int) reflect.Value {
	l := reflect.MakeSlice(v.Type(), n, n)
	for i := range n {
		if v.Len() > 0 {
			l.Index(i).Set(v.Index(i % v.Len()))
		}
	}
	return l
}

func backwards(v reflect.Value) reflect.Value {
	l := reflect.MakeSlice(v.Type(), v.Len(), v.Len())
	for i := range v.Len() {
		l.Index(i).Set(v.Index(v.Len() - 1 - i))
	}
	return l
}

func next(x *uint32, below int) int {
	*x = *x*1664525 + 1013904223
	return int(*x>>8) % below
}

// some fills v with what mostly may stand there: bad is how seldom it may not.
func some(x *uint32, v reflect.Value, bad int) {
	switch v.Kind() {
	case reflect.Struct:
		for i := range v.NumField() {
			some(x, v.Field(i), bad)
		}
		properly(x, v)
	case reflect.Slice:
		n := next(x, 3)
		if next(x, 8) > 0 {
			n++
		}
		l := reflect.MakeSlice(v.Type(), n, n+next(x, 3))
		for i := range n {
			some(x, l.Index(i), bad)
		}
		v.Set(l)
	default:
		l := others(v)
		v.Set(l[next(x, len(l))])
		if next(x, bad) > 0 {
			good(x, v)
		}
	}
}

func good(x *uint32, v reflect.Value) {
	switch v.Kind() {
	case reflect.String:
		v.SetString([]string{"a", "b", "_9"}[next(x, 3)])
	case reflect.Int, reflect.Int64:
		v.SetInt(int64(1 + next(x, 3)))
	}
}

// properly mends what is seldom right by itself: values, ops, what has no path.
func properly(x *uint32, v reflect.Value) {
	if next(x, 40) == 0 {
		return
	}
	switch p := v.Addr().Interface().(type) {
	case *api.Value:
		*p = []api.Value{{}, num(p.N), text(p.S)}[next(x, 3)]
	case *api.Op:
		switch p.Do {
		case api.DoInsert:
			p.Id, p.Col = 0, ""
		case api.DoDelete:
			p.Col, p.Vals = "", nil
		case api.DoUpdate:
			p.Vals = append(p.Vals, num(1))[:1]
		}
	case *api.Col:
		p.Kind = 1 + next(x, 2)
	case *api.Agg:
		p.Fn = 1 + next(x, 7)
		p.Path = append(p.Path, "c")
		if p.Fn == api.FnRows {
			p.Path = nil
		}
	case *api.Cond:
		p.Op = 1 + next(x, 8)
		if p.Op >= api.OpNull {
			p.Val = api.Value{}
		}
	case *api.Query:
		p.Mode = min(next(x, 3), len(p.By))
	}
}

// statement is one of any kind, mostly with the part that counts alone.
func statement(x *uint32, kind, bad int) (y api.Stmt) {
	if next(x, 20) == 0 {
		some(x, reflect.ValueOf(&y).Elem(), bad)
		return y
	}
	y.Kind = kind
	some(x, reflect.ValueOf(&y).Elem().FieldByName(parts()[kind]), bad)
	return y
}

func TestMixedStatements(t *testing.T) {
	seed, mays := uint32(18), [6]int{}
	for i := range 20000 {
		x := statement(&seed, 1+i%5, []int{20, 200, 2000}[i%3])
		agrees(t, x)
		if show.May(x) {
			mays[x.Kind]++
		}
		changed := copied(x)
		l := places(&changed)
		p := l[next(&seed, len(l))].v
		with := others(p)
		p.Set(with[next(&seed, len(with))])
		agrees(t, changed)
		alike(t, x, changed)
		alike(t, x, copied(x))
		alike(t, x, plain(x))
	}
	for kind := 1; kind < 6; kind++ {
		if mays[kind] < 1000 {
			t.Errorf("too few statements that may be were tried: %v", mays)
		}
	}
}

// Small statements of one Kind, each against each: unlike ones have unlike texts.
func TestEachAgainstEach(t *testing.T) {
	seed := uint32(81)
	for kind := 1; kind < 6; kind++ {
		seen := map[string]api.Stmt{}
		var all []api.Stmt
		for range 400 {
			x := statement(&seed, kind, 100)
			all = append(all, x)
			if text := show.Text(x); text != "" {
				if y, ok := seen[text]; ok && !show.Eq(x, y) {
					t.Fatalf("P18.1: %q is the text of %s and %s", text, told(x), told(y))
				}
				seen[text] = x
			}
		}
		for _, x := range all[:60] {
			for _, y := range all {
				alike(t, x, y)
			}
		}
	}
}
