package plan

import (
	"slices"

	"tallyhouse/api"
	"tallyhouse/cell"
	"tallyhouse/expr"
	"tallyhouse/token"
)

// counted: how many nodes p has, with those of its expressions; false, if
// they are more than so many, or it is higher than so. It looks at no more
// than that, since what is nested in itself has no end.
func counted(p api.Plan, nodes, height int) (int, bool) {
	if nodes < 1 || height < 1 {
		return 0, false
	}
	count := 1
	for _, e := range p.Exprs {
		count += nodesOf(e)
		if count > nodes {
			return 0, false
		}
	}
	for _, arg := range p.Args {
		more, fits := counted(arg, nodes-count, height-1)
		if !fits {
			return 0, false
		}
		count += more
	}
	return count, true
}

// nodesOf an expression; one that is not built counts for one.
func nodesOf(e api.Expr) int {
	nodes, _ := expr.Size(e)
	if nodes > api.MaxNodes {
		return 1
	}
	return nodes
}

// isBuilt: is p, which is not too large, built?
func isBuilt(p api.Plan) bool {
	return isSound(p) && !slices.ContainsFunc(p.Exprs, isNotNeat) && !slices.ContainsFunc(p.Args, isNotBuilt)
}

func isNotBuilt(p api.Plan) bool { return !isBuilt(p) }

// isNotNeat: is the expression not built, or has it something that it does
// not need?
func isNotNeat(e api.Expr) bool {
	nodes, _ := expr.Size(e)
	return nodes > api.MaxNodes || hasNeedless(e)
}

func hasNeedless(e api.Expr) bool {
	return e.Op != api.Col && e.N != 0 ||
		e.Op != api.Const && e.V != api.Value{} ||
		e.V != cell.Clean(e.V) ||
		slices.ContainsFunc(e.Args, hasNeedless)
}

// isSound: has p, whatever its expressions and Args are, all that its operator
// needs, and nothing else?
func isSound(p api.Plan) bool { return hasItsArgs(p) && hasItsNeeds(p) && hasNothingElse(p) }

func hasItsArgs(p api.Plan) bool {
	switch p.Op {
	case api.Scan, api.Empty:
		return len(p.Args) == 0
	case api.Join, api.LeftJoin, api.Minus:
		return len(p.Args) == 2
	case api.Union:
		return len(p.Args) >= 1
	}
	return len(p.Args) == 1
}

// hasItsNeeds: has p what its operator, if there is such a one, needs beside
// Args?
func hasItsNeeds(p api.Plan) bool {
	switch p.Op {
	case api.Scan:
		return token.IsName(p.Table)
	case api.Filter, api.Join, api.LeftJoin:
		return len(p.Exprs) == 1
	case api.Project:
		return len(p.Exprs) >= 1 && len(p.Exprs) <= api.MaxColumns
	case api.Group:
		return len(p.Cols)+len(p.Aggs) >= 1 && areColumns(p.Cols) && !slices.ContainsFunc(p.Aggs, isNoAgg)
	case api.Distinct, api.Union, api.Minus:
		return true
	case api.Top:
		return areColumns(columnsOf(p.Keys)) && p.N >= 0 && p.Off >= 0
	case api.Window:
		return areColumns(p.Cols) && areColumns(columnsOf(p.Keys)) && isWindow(p.Fn, p.Col, p.N)
	case api.Empty:
		return len(p.Cols) >= 1 && len(p.Cols) <= api.MaxColumns && !slices.ContainsFunc(p.Cols, isNoKind)
	}
	return false
}

// hasNothingElse: is all of p, but its operator and Args, what it needs?
func hasNothingElse(p api.Plan) bool {
	is := needed(p)
	return p.Table == is.Table &&
		len(p.Exprs) == len(is.Exprs) &&
		len(p.Cols) == len(is.Cols) &&
		len(p.Keys) == len(is.Keys) &&
		len(p.Aggs) == len(is.Aggs) &&
		p.Fn == is.Fn && p.Col == is.Col && p.N == is.N && p.Off == is.Off
}

// needed: what the operator of p needs of it, beside Args.
func needed(p api.Plan) api.Plan {
	switch p.Op {
	case api.Scan:
		return api.Plan{Table: p.Table}
	case api.Filter, api.Project, api.Join, api.LeftJoin:
		return api.Plan{Exprs: p.Exprs}
	case api.Group:
		return api.Plan{Cols: p.Cols, Aggs: p.Aggs}
	case api.Top:
		return api.Plan{Keys: p.Keys, N: p.N, Off: p.Off}
	case api.Window:
		return api.Plan{Cols: p.Cols, Keys: p.Keys, Fn: p.Fn, Col: p.Col, N: p.N}
	case api.Empty:
		return api.Plan{Cols: p.Cols}
	}
	return api.Plan{}
}

// areColumns: may these be numbers of columns, each once?
func areColumns(list []int) bool { return !slices.ContainsFunc(list, isBelowZero) && areUnlike(list) }

func isBelowZero(n int) bool { return n < 0 }

func columnsOf(keys []api.Key) []int {
	columns := make([]int, len(keys))
	for i, key := range keys {
		columns[i] = key.Col
	}
	return columns
}

func isNoAgg(a api.Agg) bool {
	return a.Fn < api.CountAll || a.Fn > api.CountEach || a.Col < 0 || a.Fn == api.CountAll && a.Col != 0
}

// isWindow: is there such a window function, of this column and number?
func isWindow(fn, column, n int) bool {
	switch fn {
	case api.Number, api.Rank, api.Dense:
		return column == 0 && n == 0
	case api.SumOver, api.CountOver:
		return column >= 0
	case api.Ahead:
		return column >= 0 && n >= 0
	}
	return false
}
