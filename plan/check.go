package plan

import (
	"slices"

	"tallyhouse/api"
	"tallyhouse/expr"
)

// node: a plan that has been looked at: with the kinds of its columns, and, of
// a Scan, its table.
type node struct {
	plan  api.Plan
	table api.Table
	kinds []int
	args  []node
}

// looked at p, which is built, from within; the tables are good.
func looked(p api.Plan, tables []api.Table) (node, api.Errno) {
	n := node{plan: p}
	for _, arg := range p.Args {
		seen, e := looked(arg, tables)
		if e != api.OK {
			return node{}, e
		}
		n.args = append(n.args, seen)
	}
	if p.Op == api.Scan {
		at := slices.IndexFunc(tables, func(table api.Table) bool { return table.Name == p.Table })
		if at < 0 {
			return node{}, api.ErrAbsent
		}
		n.table = tables[at]
	}
	if e := n.look(); e != api.OK {
		return node{}, e
	}
	return n, api.OK
}

// look at a plan whose Args have been looked at, and tell its kinds.
func (n *node) look() api.Errno {
	over := n.over()
	if slices.ContainsFunc(n.columns(), func(column int) bool { return column >= len(over) }) {
		return api.ErrArg
	}
	n.kinds = n.kindsOver(over)
	if len(n.kinds) > api.MaxColumns {
		return api.ErrArg
	}
	if !n.fits(over) {
		return api.ErrKind
	}
	return api.OK
}

// over which columns its own numbers of columns speak: their kinds.
func (n *node) over() []int {
	switch n.plan.Op {
	case api.Scan, api.Empty:
		return nil
	case api.Join, api.LeftJoin:
		return slices.Concat(n.args[0].kinds, n.args[1].kinds)
	}
	return slices.Clone(n.args[0].kinds)
}

// columns of its Args that it speaks of.
func (n *node) columns() []int {
	p := n.plan
	switch p.Op {
	case api.Group:
		columns := slices.Clone(p.Cols)
		for _, agg := range p.Aggs {
			columns = append(columns, agg.Col)
		}
		return columns
	case api.Top:
		return columnsOf(p.Keys)
	case api.Window:
		return append(slices.Concat(p.Cols, columnsOf(p.Keys)), p.Col)
	}
	var columns []int
	for _, e := range p.Exprs {
		columns = append(columns, expr.Columns(e)...)
	}
	return columns
}

// kindsOver these columns of its own ones, if all that it says of them fits.
func (n *node) kindsOver(over []int) []int {
	p := n.plan
	switch p.Op {
	case api.Scan:
		return columnKinds(n.table.Columns)
	case api.Project:
		return exprKinds(p.Exprs, over)
	case api.Group:
		return groupKinds(p.Cols, p.Aggs, over)
	case api.Window:
		if p.Fn == api.Ahead {
			return append(over, over[p.Col])
		}
		return append(over, api.Int)
	case api.Empty:
		return slices.Clone(p.Cols)
	}
	return over
}

func columnKinds(columns []api.Column) []int {
	kinds := make([]int, len(columns))
	for i, column := range columns {
		kinds[i] = column.Kind
	}
	return kinds
}

func exprKinds(exprs []api.Expr, over []int) []int {
	kinds := make([]int, len(exprs))
	for i, e := range exprs {
		kind, _ := expr.Kind(e, over)
		// A column of nulls alone is one of numbers.
		kinds[i] = max(kind, api.Int)
	}
	return kinds
}

func groupKinds(columns []int, aggs []api.Agg, over []int) []int {
	var kinds []int
	for _, column := range columns {
		kinds = append(kinds, over[column])
	}
	for _, agg := range aggs {
		if agg.Fn == api.Least || agg.Fn == api.Most {
			kinds = append(kinds, over[agg.Col])
		} else {
			kinds = append(kinds, api.Int)
		}
	}
	return kinds
}

// fits: does what it says of columns of these kinds fit them?
func (n *node) fits(over []int) bool {
	p := n.plan
	switch p.Op {
	case api.Filter, api.Join, api.LeftJoin:
		kind, e := expr.Kind(p.Exprs[0], over)
		return e == api.OK && kind != api.Text
	case api.Project:
		return !slices.ContainsFunc(p.Exprs, func(part api.Expr) bool {
			_, e := expr.Kind(part, over)
			return e != api.OK
		})
	case api.Group:
		return !slices.ContainsFunc(p.Aggs, func(agg api.Agg) bool { return agg.Fn == api.Sum && over[agg.Col] == api.Text })
	case api.Window:
		return p.Fn != api.SumOver || over[p.Col] != api.Text
	case api.Union, api.Minus:
		return !slices.ContainsFunc(n.args, func(arg node) bool { return !slices.Equal(arg.kinds, over) })
	}
	return true
}
