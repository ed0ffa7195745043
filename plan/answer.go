package plan

import (
	"slices"

	"tallyhouse/api"
	"tallyhouse/cell"
	"tallyhouse/expr"
)

// taker of rows: each is lent for the call alone, since the next one may be
// laid over it: who keeps it copies it, and nobody changes it.
type taker func(row []api.Value)

// each row that a plan means is handed to take, in any order. None is held
// longer than needed: of a plan that means few rows there may be many within.
func (n *node) each(take taker) {
	switch n.plan.Op {
	case api.Scan:
		n.eachInTable(take)
	case api.Filter:
		n.eachTrue(take)
	case api.Project:
		n.eachWorkedOut(take)
	case api.Join, api.LeftJoin:
		n.eachPair(take)
	case api.Group, api.Top, api.Window:
		n.eachGathered(take)
	case api.Distinct:
		n.eachUnlike(take)
	case api.Union:
		for i := range n.args {
			n.args[i].each(take)
		}
	case api.Minus:
		n.eachLeft(take)
	}
}

// rows that a plan means, all of them new.
func (n *node) rows() [][]api.Value {
	var rows [][]api.Value
	n.each(func(row []api.Value) { rows = append(rows, slices.Clone(row)) })
	return rows
}

func (n *node) eachInTable(take taker) {
	clean := make([]api.Value, len(n.kinds))
	for _, row := range n.table.Rows {
		for i, v := range row {
			clean[i] = cell.Clean(v)
		}
		take(clean)
	}
}

func (n *node) eachTrue(take taker) {
	value := expr.Ready(n.plan.Exprs[0])
	n.args[0].each(func(row []api.Value) {
		if cell.True(value(row)) {
			take(row)
		}
	})
}

func (n *node) eachWorkedOut(take taker) {
	values := make([]func([]api.Value) api.Value, len(n.plan.Exprs))
	for i, e := range n.plan.Exprs {
		values[i] = expr.Ready(e)
	}
	worked := make([]api.Value, len(values))
	n.args[0].each(func(row []api.Value) {
		for i, value := range values {
			worked[i] = value(row)
		}
		take(worked)
	})
}

func (n *node) eachUnlike(take taker) {
	times := map[string]int{}
	n.args[0].each(func(row []api.Value) {
		key := cell.Key(row)
		times[key]++
		if times[key] == 1 {
			take(row)
		}
	})
}

// eachLeft of the first Arg's rows: each of the second one's takes one like it
// away, if there is one.
func (n *node) eachLeft(take taker) {
	gone := map[string]int{}
	n.args[1].each(func(row []api.Value) { gone[cell.Key(row)]++ })
	n.args[0].each(func(row []api.Value) {
		key := cell.Key(row)
		if gone[key] > 0 {
			gone[key]--
			return
		}
		take(row)
	})
}
