package cost

import (
	"math/bits"
	"slices"

	"tallyhouse/api"
	"tallyhouse/expr"
)

// figures of a plan: how many rows it gives, what it costs, and how many unlike
// values each of its columns has.
type figures struct {
	rows   int
	cost   int
	unlike []int
}

// reckon a plan from within, each of the plans in it once.
func (s scans) reckon(p api.Plan) figures {
	if p.Op == api.Scan {
		return s[p.Table]
	}
	args := make([]figures, len(p.Args))
	for i, arg := range p.Args {
		args[i] = s.reckon(arg)
	}
	rows := rowsOf(p, args)
	return figures{rows: rows, cost: costOf(p, args, rows), unlike: atMost(rows, unlikeOf(p, args, rows))}
}

// atMost as many unlike values as there are rows, in each column, and at least
// 1.
func atMost(rows int, unlike []int) []int {
	list := make([]int, len(unlike))
	for i, n := range unlike {
		list[i] = max(min(n, rows), 1)
	}
	return list
}

// unlikeOf the columns of a plan that gives so many rows, which bound them
// still.
func unlikeOf(p api.Plan, args []figures, rows int) []int {
	switch p.Op {
	case api.Project:
		return unlikeOfExprs(p.Exprs, args[0].unlike, rows)
	case api.Join, api.LeftJoin:
		return slices.Concat(args[0].unlike, args[1].unlike)
	case api.Group:
		return append(picked(args[0].unlike, p.Cols), slices.Repeat([]int{rows}, len(p.Aggs))...)
	case api.Union:
		return slices.Repeat([]int{rows}, len(args[0].unlike))
	case api.Window:
		return append(slices.Clone(args[0].unlike), rows)
	case api.Empty:
		return slices.Repeat([]int{rows}, len(p.Cols))
	}
	return args[0].unlike
}

func unlikeOfExprs(exprs []api.Expr, unlike []int, rows int) []int {
	list := make([]int, len(exprs))
	for i, e := range exprs {
		list[i] = rows
		if e.Op == api.Col {
			list[i] = unlike[e.N]
		}
	}
	return list
}

func picked(unlike, columns []int) []int {
	var list []int
	for _, column := range columns {
		list = append(list, unlike[column])
	}
	return list
}

// rowsOf a plan that is no Scan.
func rowsOf(p api.Plan, args []figures) int {
	switch p.Op {
	case api.Empty:
		return 0
	case api.Filter:
		return leftOver(args[0].rows, p.Exprs[0], args[0].unlike)
	case api.Join:
		return joinedRows(p, args)
	case api.LeftJoin:
		return max(joinedRows(p, args), args[0].rows)
	case api.Group:
		return groups(args[0], p.Cols)
	case api.Distinct:
		return per(args[0].rows, 2)
	case api.Union:
		return rowsOfAll(args)
	case api.Top:
		return min(p.N, args[0].rows)
	}
	return args[0].rows
}

func joinedRows(p api.Plan, args []figures) int {
	pairs := times(args[0].rows, args[1].rows)
	return leftOver(pairs, p.Exprs[0], slices.Concat(args[0].unlike, args[1].unlike))
}

func groups(arg figures, columns []int) int {
	if len(columns) == 0 {
		return 1
	}
	count := 1
	for _, n := range picked(arg.unlike, columns) {
		count = times(count, n)
	}
	return min(count, arg.rows)
}

func rowsOfAll(args []figures) int {
	sum := 0
	for _, arg := range args {
		sum = plus(sum, arg.rows)
	}
	return sum
}

// costOf a plan that gives so many rows, and is no Scan.
func costOf(p api.Plan, args []figures, rows int) int {
	cost := ownCost(p, args, rows)
	for _, arg := range args {
		cost = plus(cost, arg.cost)
	}
	return cost
}

// ownCost of a plan, without those of its Args.
func ownCost(p api.Plan, args []figures, rows int) int {
	switch p.Op {
	case api.Empty:
		return rows
	case api.Filter, api.Project, api.Union:
		return rowsOfAll(args)
	case api.Join, api.LeftJoin:
		return plus(matching(p.Exprs[0], args), rows)
	}
	cost := rows
	for _, arg := range args {
		cost = plus(cost, times(arg.rows, max(bits.Len(uint(arg.rows)), 1)))
	}
	return cost
}

// matching the rows of both Args of a Join: each of them once, where a part of
// the condition tells which ones belong together, or each pair.
func matching(condition api.Expr, args []figures) int {
	width := len(args[0].unlike)
	if slices.ContainsFunc(expr.Parts(condition), func(part api.Expr) bool { return tiesSides(part, width) }) {
		return rowsOfAll(args)
	}
	return times(args[0].rows, args[1].rows)
}

// tiesSides: is it Eq of a column of the first Arg, which has so many, and one
// of the second Arg, either way?
func tiesSides(part api.Expr, width int) bool {
	return isOfColumns(part) && (part.Args[0].N < width) != (part.Args[1].N < width)
}
