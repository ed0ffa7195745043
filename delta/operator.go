package delta

import (
	"tallyhouse/api"
	"tallyhouse/cell"
	"tallyhouse/expr"
	"tallyhouse/plan"
)

// changes of tables, by their names: each row at most once.
type changes map[string][]api.Change

// taker of rows that come so many times, or go. Each is lent for the call alone:
// who keeps it copies it, and nobody changes it.
type taker func(row []api.Value, times int64)

// operator of a plan. It keeps of its Args' rows what it needs to tell, when
// they change, how its own ones do.
type operator interface {
	// step: what changes of its rows, when the tables change so, is handed to
	// take. In one step a row may come and go several times: only what it comes
	// to in all is true. The first step is from tables without rows.
	step(in changes, take taker)
}

// gathered: what changes of an operator's rows, added up.
func gathered(from operator, in changes) bag {
	all := bag{}
	from.step(in, func(row []api.Value, times int64) { all.add(cell.Key(row), times) })
	return all
}

// made: the operator of p, which has been checked over these tables and is not
// changed any more.
func made(p api.Plan, tables []api.Table) operator {
	args := make([]operator, len(p.Args))
	for i, arg := range p.Args {
		args[i] = made(arg, tables)
	}
	switch p.Op {
	case api.Scan:
		return scan{table: p.Table}
	case api.Filter:
		return filter{from: args[0], holds: expr.Ready(p.Exprs[0])}
	case api.Project:
		return newProject(p, args[0])
	case api.Join:
		return &join{pairs: newPairs(p, args, tables)}
	case api.LeftJoin:
		return &leftJoin{pairs: newPairs(p, args, tables)}
	case api.Group:
		return newGroup(p, args[0])
	case api.Distinct:
		return distinct{from: args[0], rows: bag{}}
	case api.Union:
		return union{from: args}
	case api.Top:
		return newTop(p, args[0])
	case api.Window:
		return newWindow(p, args[0])
	case api.Minus:
		return minus{from: args[0], less: args[1], rest: bag{}}
	}
	return empty{}
}

// width of p: how many columns it has.
func width(p api.Plan, tables []api.Table) int {
	kinds, _ := plan.Check(p, tables)
	return len(kinds)
}
