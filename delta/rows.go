package delta

import (
	"tallyhouse/api"
	"tallyhouse/cell"
	"tallyhouse/expr"
)

// scan of a table.
type scan struct {
	table string
}

func (s scan) step(in changes, take taker) {
	for _, c := range in[s.table] {
		take(c.Row, c.Weight)
	}
}

// filter: the rows for which a condition is true.
type filter struct {
	from  operator
	holds func(row []api.Value) api.Value
}

func (f filter) step(in changes, take taker) {
	f.from.step(in, func(row []api.Value, times int64) {
		if cell.True(f.holds(row)) {
			take(row, times)
		}
	})
}

// project: of each row what some expressions come to.
type project struct {
	from   operator
	values []func(row []api.Value) api.Value
}

func newProject(p api.Plan, from operator) project {
	values := make([]func(row []api.Value) api.Value, len(p.Exprs))
	for i, e := range p.Exprs {
		values[i] = expr.Ready(e)
	}
	return project{from: from, values: values}
}

func (p project) step(in changes, take taker) {
	worked := make([]api.Value, len(p.values))
	p.from.step(in, func(row []api.Value, times int64) {
		for i, value := range p.values {
			worked[i] = value(row)
		}
		take(worked, times)
	})
}

// union of the rows of several.
type union struct {
	from []operator
}

func (u union) step(in changes, take taker) {
	for _, from := range u.from {
		from.step(in, take)
	}
}

// empty: no rows, whatever changes.
type empty struct{}

func (empty) step(changes, taker) {}
