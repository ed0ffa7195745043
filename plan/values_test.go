package plan_test

import (
	"slices"
	"strconv"
	"strings"
	"testing"

	"tallyhouse/api"
	"tallyhouse/plan"
)

var null api.Value

func n(x int64) api.Value { return api.Value{Kind: api.Int, N: x} }

func s(x string) api.Value { return api.Value{Kind: api.Text, S: x} }

func long(size int) string { return strings.Repeat("x", size) }

func col(i int) api.Expr { return api.Expr{Op: api.Col, N: i} }

func con(v api.Value) api.Expr { return api.Expr{Op: api.Const, V: v} }

func num(x int64) api.Expr { return con(n(x)) }

func txt(x string) api.Expr { return con(s(x)) }

func of(op int, parts ...api.Expr) api.Expr { return api.Expr{Op: op, Args: parts} }

func columns(list ...int) []api.Expr {
	var exprs []api.Expr
	for _, i := range list {
		exprs = append(exprs, col(i))
	}
	return exprs
}

func scan(table string) api.Plan { return api.Plan{Op: api.Scan, Table: table} }

func empty(kinds ...int) api.Plan { return api.Plan{Op: api.Empty, Cols: kinds} }

// over: a plan with its Args.
func over(p api.Plan, args ...api.Plan) api.Plan {
	p.Args = args
	return p
}

func filter(e api.Expr, arg api.Plan) api.Plan {
	return over(api.Plan{Op: api.Filter, Exprs: []api.Expr{e}}, arg)
}

func project(arg api.Plan, exprs ...api.Expr) api.Plan {
	return over(api.Plan{Op: api.Project, Exprs: exprs}, arg)
}

func join(op int, e api.Expr, first, second api.Plan) api.Plan {
	return over(api.Plan{Op: op, Exprs: []api.Expr{e}}, first, second)
}

func group(arg api.Plan, cols []int, aggs ...api.Agg) api.Plan {
	return over(api.Plan{Op: api.Group, Cols: cols, Aggs: aggs}, arg)
}

func top(arg api.Plan, count, off int, keys ...api.Key) api.Plan {
	return over(api.Plan{Op: api.Top, Keys: keys, N: count, Off: off}, arg)
}

func window(fn, column, count int, arg api.Plan, cols []int, keys ...api.Key) api.Plan {
	return over(api.Plan{Op: api.Window, Fn: fn, Col: column, N: count, Cols: cols, Keys: keys}, arg)
}

func distinct(arg api.Plan) api.Plan { return over(api.Plan{Op: api.Distinct}, arg) }

func union(args ...api.Plan) api.Plan { return over(api.Plan{Op: api.Union}, args...) }

func minus(first, second api.Plan) api.Plan { return over(api.Plan{Op: api.Minus}, first, second) }

// ints: a list of so many kinds Int.
func ints(count int) []int { return slices.Repeat([]int{api.Int}, count) }

// rising: 0 to count - 1.
func rising(count int) []int {
	list := make([]int, count)
	for i := range list {
		list[i] = i
	}
	return list
}

// table of a name, whose columns, named a, b and so on, are of kinds that the
// letters i and t say.
func table(name, kinds string, rows ...[]api.Value) api.Table {
	t := api.Table{Name: name, Rows: rows}
	for i := range len(kinds) {
		kind := api.Int
		if kinds[i] == 't' {
			kind = api.Text
		}
		t.Columns = append(t.Columns, api.Column{Name: "c" + strconv.Itoa(i), Kind: kind})
	}
	return t
}

// example: the table of DOC.md's third example.
func example() []api.Table {
	return []api.Table{table("t", "it", []api.Value{n(1), s("x")}, []api.Value{n(2), null}, []api.Value{n(1), s("x")})}
}

func sameExpr(a, b api.Expr) bool {
	return a.Op == b.Op && a.N == b.N && a.V == b.V && slices.EqualFunc(a.Args, b.Args, sameExpr)
}

// same: lists that are empty may be nil.
func same(a, b api.Plan) bool {
	return a.Op == b.Op && a.Table == b.Table && a.Fn == b.Fn && a.Col == b.Col && a.N == b.N && a.Off == b.Off &&
		slices.EqualFunc(a.Exprs, b.Exprs, sameExpr) && slices.Equal(a.Cols, b.Cols) && slices.Equal(a.Keys, b.Keys) &&
		slices.Equal(a.Aggs, b.Aggs) && slices.EqualFunc(a.Args, b.Args, same)
}

func sameRows(a, b [][]api.Value) bool { return slices.EqualFunc(a, b, slices.Equal) }

// show rows as a text.
func show(rows [][]api.Value) string {
	var out strings.Builder
	for _, row := range rows {
		for i, v := range row {
			out.WriteString([]string{"[", " "}[min(i, 1)])
			switch v.Kind {
			case api.Int:
				out.WriteString(strconv.FormatInt(v.N, 10))
			case api.Text:
				out.WriteString(strconv.Quote(v.S))
			default:
				out.WriteString("-")
			}
		}
		out.WriteString("]")
	}
	return out.String()
}

// parsed: the plan of a text that is one.
func parsed(t *testing.T, text string) api.Plan {
	t.Helper()
	p, e := plan.Parse(text)
	if e != api.OK {
		t.Fatalf("Parse(%s): error %d", text, e)
	}
	return p
}

// answers: what a plan's text means over tables, by what show makes of it.
func answers(t *testing.T, text string, tables []api.Table, want string) {
	t.Helper()
	rows, e := plan.Answer(parsed(t, text), tables)
	if e != api.OK || show(rows) != want {
		t.Errorf("%s answers %s, error %d, not %s", text, show(rows), e, want)
	}
}

// refused: each call that looks at plans and tables refuses them with the
// error that is expected of it; other answers are zero.
func refused(t *testing.T, what string, p api.Plan, tables []api.Table, want api.Errno) {
	t.Helper()
	if kinds, e := plan.Check(p, tables); e != want || kinds != nil {
		t.Errorf("%s: Check gives %v, error %d, not only error %d", what, kinds, e, want)
	}
	if rows, e := plan.Answer(p, tables); e != want || rows != nil {
		t.Errorf("%s: Answer gives %v, error %d, not only error %d", what, rows, e, want)
	}
}

// notBuilt: each call that looks whether a plan is built refuses it.
func notBuilt(t *testing.T, what string, p api.Plan, want api.Errno) {
	t.Helper()
	if e := plan.Built(p); e != want {
		t.Errorf("%s: Built gives %d, not %d", what, e, want)
	}
	refused(t, what, p, example(), want)
	if text, e := plan.Print(p); e != want || text != "" {
		t.Errorf("%s: Print gives %q, error %d, not only error %d", what, text, e, want)
	}
}
