package rule

import (
	"slices"

	"tallyhouse/api"
	"tallyhouse/expr"
)

// stands: is p one of this operator, whose first Arg is one of those?
func stands(p api.Plan, op int, over ...int) bool {
	return p.Op == op && slices.Contains(over, p.Args[0].Op)
}

// with other Args.
func with(p api.Plan, args ...api.Plan) api.Plan {
	p.Args = args
	return p
}

func filter(e api.Expr, x api.Plan) api.Plan {
	return api.Plan{Op: api.Filter, Exprs: []api.Expr{e}, Args: []api.Plan{x}}
}

func project(exprs []api.Expr, x api.Plan) api.Plan {
	return api.Plan{Op: api.Project, Exprs: exprs, Args: []api.Plan{x}}
}

// join: a Join or LeftJoin.
func join(op int, c api.Expr, x, y api.Plan) api.Plan {
	return api.Plan{Op: op, Exprs: []api.Expr{c}, Args: []api.Plan{x, y}}
}

func empty(kinds []int) api.Plan { return api.Plan{Op: api.Empty, Cols: kinds} }

func both(e, f api.Expr) api.Expr { return api.Expr{Op: api.And, Args: []api.Expr{e, f}} }

// from a number up to one that is not among them.
func from(low, high int) []int {
	var list []int
	for i := low; i < high; i++ {
		list = append(list, i)
	}
	return list
}

func columns(list []int) []api.Expr {
	exprs := make([]api.Expr, len(list))
	for i, column := range list {
		exprs[i] = api.Expr{Op: api.Col, N: column}
	}
	return exprs
}

// usesWithin: is each column in e one from low up to high, which is not among
// them? So it is where there is no column.
func usesWithin(e api.Expr, low, high int) bool {
	return !slices.ContainsFunc(expr.Columns(e), func(column int) bool { return column < low || column >= high })
}

// moved: e, which fits, with to[N] for each column N.
func moved(e api.Expr, to []int) api.Expr {
	e, _ = expr.Moved(e, to)
	return e
}

// less: e, whose columns are from k on, with k less in each.
func less(e api.Expr, k int) api.Expr {
	return moved(e, append(make([]int, k), from(0, api.MaxColumns)...))
}

// more: e with k more in each column.
func more(e api.Expr, k int) api.Expr { return moved(e, from(k, k+api.MaxColumns)) }

// takenOut: the first part of c for which it is so, and all the others.
func takenOut(c api.Expr, so func(part api.Expr) bool) (api.Expr, api.Expr, bool) {
	parts := expr.Parts(c)
	at := slices.IndexFunc(parts, so)
	if at < 0 {
		return api.Expr{}, api.Expr{}, false
	}
	return parts[at], expr.All(slices.Delete(slices.Clone(parts), at, at+1)), true
}
