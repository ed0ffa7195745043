package delta

import (
	"slices"

	"tallyhouse/api"
	"tallyhouse/cell"
	"tallyhouse/plan"
)

// group: what the rows that have some columns in common come to.
type group struct {
	from  operator
	cols  []int
	aggs  []api.Agg
	parts map[string]*part
	told  map[string][]api.Value // in this step: what has been told of those that change; nil: nothing
}

// part of the rows: those with one key.
type part struct {
	common   []api.Value
	rows     int64
	gathered []column
}

// column: what is known of it, as far as one aggregate asks.
type column struct {
	sum    plan.Sum
	values *ordered[api.Value] // those that are not null; nil, if only their sum and count is asked for
}

func newGroup(p api.Plan, from operator) *group {
	g := &group{from: from, cols: p.Cols, aggs: p.Aggs, parts: map[string]*part{}, told: map[string][]api.Value{}}
	// Without columns there is one part, of no rows as well; nothing has been
	// told of it yet.
	if len(p.Cols) == 0 {
		g.partOf(nil)
	}
	return g
}

func (g *group) step(in changes, take taker) {
	g.from.step(in, func(row []api.Value, times int64) {
		g.partOf(plan.At(row, g.cols)).add(g.aggs, row, times)
	})
	for key, before := range g.told {
		after := g.tell(g.parts[key])
		if after == nil {
			delete(g.parts, key)
		}
		if slices.Equal(before, after) {
			continue
		}
		if before != nil {
			take(before, -1)
		}
		if after != nil {
			take(after, 1)
		}
	}
	g.told = map[string][]api.Value{}
}

// partOf those rows that have this in common, which is about to change.
func (g *group) partOf(common []api.Value) *part {
	key := cell.Key(common)
	one, there := g.parts[key]
	if !there {
		one = newPart(common, g.aggs)
		g.parts[key] = one
		g.told[key] = nil
		return one
	}
	if _, known := g.told[key]; !known {
		g.told[key] = g.tell(one)
	}
	return one
}

// tell the row of a part; nil, if there is none, as it has no rows.
func (g *group) tell(one *part) []api.Value {
	if one.rows == 0 && len(g.cols) > 0 {
		return nil
	}
	row := slices.Clone(one.common)
	for i, agg := range g.aggs {
		row = append(row, one.value(agg.Fn, one.gathered[i]))
	}
	return row
}

func newPart(common []api.Value, aggs []api.Agg) *part {
	one := &part{common: common, gathered: make([]column, len(aggs))}
	for i, agg := range aggs {
		if agg.Fn == api.Least || agg.Fn == api.Most || agg.Fn == api.CountEach {
			one.gathered[i].values = &ordered[api.Value]{order: cell.Order}
		}
	}
	return one
}

// add a row so many times, or take it out.
func (one *part) add(aggs []api.Agg, row []api.Value, times int64) {
	one.rows += times
	for i, agg := range aggs {
		v, to := row[agg.Col], &one.gathered[i]
		to.sum.Add(v, times)
		if to.values != nil && v.Kind != api.Null {
			to.values.add(v, times)
		}
	}
}

// value of the aggregate fn, of a column.
func (one *part) value(fn int, of column) api.Value {
	switch fn {
	case api.CountAll:
		return plan.Integer(one.rows)
	case api.Count:
		return plan.Integer(of.sum.Count())
	case api.Sum:
		return of.sum.Value()
	case api.CountEach:
		return plan.Integer(int64(of.values.size))
	}
	least, most, _ := of.values.ends()
	if fn == api.Least {
		return least
	}
	return most
}
