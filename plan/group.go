package plan

import (
	"tallyhouse/api"
	"tallyhouse/cell"
)

// At: the values of these columns of a row that has them.
func At(row []api.Value, columns []int) []api.Value {
	values := make([]api.Value, len(columns))
	for i, column := range columns {
		values[i] = row[column]
	}
	return values
}

// group of rows: what they have in common, and what is gathered of them.
type group struct {
	common   []api.Value
	gathered []gathered
}

// groups of rows with equal values in the columns of a Group.
type groups struct {
	plan   api.Plan
	list   []group
	places map[string]int
}

func newGroups(p api.Plan) *groups {
	g := &groups{plan: p, places: map[string]int{}}
	// Without columns there is one group, of no rows as well.
	if len(p.Cols) == 0 {
		g.placeOf(nil)
	}
	return g
}

// placeOf the group that has this in common, which may be a new one.
func (g *groups) placeOf(common []api.Value) int {
	key := cell.Key(common)
	at, there := g.places[key]
	if !there {
		at = len(g.list)
		g.places[key] = at
		g.list = append(g.list, group{common: common, gathered: make([]gathered, len(g.plan.Aggs))})
	}
	return at
}

// Add a row to its group.
func (g *groups) Add(row []api.Value) {
	// The list is read only behind placeOf, which may make it longer.
	at := g.placeOf(At(row, g.plan.Cols))
	one := g.list[at]
	for i, agg := range g.plan.Aggs {
		one.gathered[i].add(agg.Fn, row[agg.Col])
	}
}

// Rows: of each group what is common, and the aggregates.
func (g *groups) Rows() [][]api.Value {
	rows := make([][]api.Value, len(g.list))
	for i, one := range g.list {
		rows[i] = one.common
		for k, agg := range g.plan.Aggs {
			rows[i] = append(rows[i], one.gathered[k].value(agg.Fn))
		}
	}
	return rows
}

// gathered: what has been seen of a column, as far as one aggregate asks.
type gathered struct {
	rows  int
	sum   Sum
	best  api.Value
	times map[string]int
}

// add a value, for the aggregate fn.
func (g *gathered) add(fn int, v api.Value) {
	g.rows++
	g.sum.Add(v, 1)
	if v.Kind == api.Null {
		return
	}
	switch fn {
	case api.Least:
		if g.best.Kind == api.Null || cell.Order(v, g.best) < 0 {
			g.best = v
		}
	case api.Most:
		// Null is ahead of all others.
		if cell.Order(v, g.best) > 0 {
			g.best = v
		}
	case api.CountEach:
		if g.times == nil {
			g.times = map[string]int{}
		}
		g.times[cell.Key([]api.Value{v})]++
	}
}

// value of the aggregate fn.
func (g *gathered) value(fn int) api.Value {
	switch fn {
	case api.CountAll:
		return Integer(int64(g.rows))
	case api.Count:
		return Integer(g.sum.Count())
	case api.Sum:
		return g.sum.Value()
	case api.CountEach:
		return Integer(int64(len(g.times)))
	}
	return g.best
}
