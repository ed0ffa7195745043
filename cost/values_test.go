package cost_test

import (
	"slices"
	"strconv"
	"testing"

	"tallyhouse/api"
	"tallyhouse/cost"
	"tallyhouse/plan"
)

var null api.Value

func n(x int64) api.Value { return api.Value{Kind: api.Int, N: x} }

func s(x string) api.Value { return api.Value{Kind: api.Text, S: x} }

func col(i int) api.Expr { return api.Expr{Op: api.Col, N: i} }

func con(v api.Value) api.Expr { return api.Expr{Op: api.Const, V: v} }

func num(x int64) api.Expr { return con(n(x)) }

func of(op int, parts ...api.Expr) api.Expr { return api.Expr{Op: op, Args: parts} }

func columns(list []int) []api.Expr {
	var exprs []api.Expr
	for _, i := range list {
		exprs = append(exprs, col(i))
	}
	return exprs
}

func scan(table string) api.Plan { return api.Plan{Op: api.Scan, Table: table} }

func empty(kinds ...int) api.Plan { return api.Plan{Op: api.Empty, Cols: kinds} }

// over: a plan with its Args.
func over(p api.Plan, args ...api.Plan) api.Plan {
	p.Args = args
	return p
}

func filter(e api.Expr, arg api.Plan) api.Plan {
	return over(api.Plan{Op: api.Filter, Exprs: []api.Expr{e}}, arg)
}

func project(arg api.Plan, exprs ...api.Expr) api.Plan {
	return over(api.Plan{Op: api.Project, Exprs: exprs}, arg)
}

func join(op int, e api.Expr, first, second api.Plan) api.Plan {
	return over(api.Plan{Op: op, Exprs: []api.Expr{e}}, first, second)
}

func group(arg api.Plan, cols []int, aggs ...api.Agg) api.Plan {
	return over(api.Plan{Op: api.Group, Cols: cols, Aggs: aggs}, arg)
}

func top(arg api.Plan, count, off int, keys ...api.Key) api.Plan {
	return over(api.Plan{Op: api.Top, Keys: keys, N: count, Off: off}, arg)
}

func window(fn, column, count int, arg api.Plan, cols []int, keys ...api.Key) api.Plan {
	return over(api.Plan{Op: api.Window, Fn: fn, Col: column, N: count, Cols: cols, Keys: keys}, arg)
}

func distinct(arg api.Plan) api.Plan { return over(api.Plan{Op: api.Distinct}, arg) }

func union(args ...api.Plan) api.Plan { return over(api.Plan{Op: api.Union}, args...) }

func minus(first, second api.Plan) api.Plan { return over(api.Plan{Op: api.Minus}, first, second) }

// rising: 0 to count - 1.
func rising(count int) []int {
	list := make([]int, count)
	for i := range list {
		list[i] = i
	}
	return list
}

// table of a name, whose columns are of kinds that the letters i and t say.
func table(name, kinds string, rows ...[]api.Value) api.Table {
	t := api.Table{Name: name, Rows: rows}
	for i := range len(kinds) {
		kind := api.Int
		if kinds[i] == 't' {
			kind = api.Text
		}
		t.Columns = append(t.Columns, api.Column{Name: "c" + strconv.Itoa(i), Kind: kind})
	}
	return t
}

// someTables: of one, two and three numbers, of a number and two texts, of a
// text.
func someTables() []api.Table {
	return []api.Table{
		table("u", "i", []api.Value{n(1)}, []api.Value{n(3)}, []api.Value{null}),
		table("t", "ii", []api.Value{n(1), n(2)}, []api.Value{n(3), null}, []api.Value{n(1), n(2)}, []api.Value{null, n(0)}),
		table("w", "iii", []api.Value{n(1), n(2), n(3)}, []api.Value{n(0), null, n(4)}, []api.Value{n(5), n(2), n(3)}),
		table("v", "itt", []api.Value{n(1), s("a"), s("b")}, []api.Value{n(2), null, s("")}),
		table("x", "t", []api.Value{s("a")}, []api.Value{null}),
	}
}

func sameExpr(a, b api.Expr) bool {
	return a.Op == b.Op && a.N == b.N && a.V == b.V && slices.EqualFunc(a.Args, b.Args, sameExpr)
}

// same: lists that are empty may be nil.
func same(a, b api.Plan) bool {
	return a.Op == b.Op && a.Table == b.Table && a.Fn == b.Fn && a.Col == b.Col && a.N == b.N && a.Off == b.Off &&
		slices.EqualFunc(a.Exprs, b.Exprs, sameExpr) && slices.Equal(a.Cols, b.Cols) && slices.Equal(a.Keys, b.Keys) &&
		slices.Equal(a.Aggs, b.Aggs) && slices.EqualFunc(a.Args, b.Args, same)
}

func isZero(p api.Plan) bool {
	return same(p, api.Plan{}) && p.Exprs == nil && p.Cols == nil && p.Keys == nil && p.Aggs == nil && p.Args == nil
}

func sameRows(a, b [][]api.Value) bool { return slices.EqualFunc(a, b, slices.Equal) }

// parsed: the plan of a text that is one.
func parsed(t *testing.T, text string) api.Plan {
	t.Helper()
	p, e := plan.Parse(text)
	if e != api.OK {
		t.Fatalf("Parse(%s): error %d", text, e)
	}
	return p
}

func printed(p api.Plan) string {
	text, e := plan.Print(p)
	if e != api.OK {
		return "error " + strconv.Itoa(int(e))
	}
	return text
}

// reckoned: what Rows and Cost answer of a plan.
func reckoned(t *testing.T, p api.Plan, tables []api.Table, stats []api.Stat) (int, int) {
	t.Helper()
	rows, first := cost.Rows(p, tables, stats)
	costs, second := cost.Cost(p, tables, stats)
	if first != api.OK || second != api.OK {
		t.Fatalf("%s: errors %d and %d", printed(p), first, second)
	}
	return rows, costs
}

// keepsMeaning: has what Best made the same kinds and rows?
func keepsMeaning(t *testing.T, from, made api.Plan, tables []api.Table) {
	t.Helper()
	kinds, first := plan.Check(from, tables)
	others, second := plan.Check(made, tables)
	if first != api.OK || second != api.OK || !slices.Equal(kinds, others) {
		t.Fatalf("%s is of the kinds %v, %s of %v, errors %d and %d", printed(from), kinds, printed(made), others, first, second)
	}
	rows, first := plan.Answer(from, tables)
	more, second := plan.Answer(made, tables)
	if first != api.OK || second != api.OK || !sameRows(rows, more) {
		t.Fatalf("%s answers %v, %s answers %v, over %v", printed(from), rows, printed(made), more, tables)
	}
}

// best: what Best answers of a plan that Check takes; its cost is not above the
// plan's own.
func best(t *testing.T, p api.Plan, tables []api.Table, stats []api.Stat) (api.Plan, int) {
	t.Helper()
	made, e := cost.Best(p, tables, stats)
	if e != api.OK {
		t.Fatalf("Best of %s: error %d", printed(p), e)
	}
	_, before := reckoned(t, p, tables, stats)
	_, after := reckoned(t, made, tables, stats)
	if after > before {
		t.Fatalf("Best of %s, which costs %d, is %s, which costs %d", printed(p), before, printed(made), after)
	}
	return made, after
}
