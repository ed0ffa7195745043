package plan

import (
	"tallyhouse/api"
	"tallyhouse/cell"
)

// at: the values of these columns of a row.
func at(row []api.Value, columns []int) []api.Value {
	values := make([]api.Value, len(columns))
	for i, column := range columns {
		values[i] = row[column]
	}
	return values
}

// keyAt: the same text for rows with equal values in these columns.
func keyAt(row []api.Value, columns []int) string { return cell.Key(at(row, columns)) }

// group of rows: what they have in common, and what is gathered of them.
type group struct {
	common   []api.Value
	gathered []gathered
}

// eachGroup: of each group what is common, and the aggregates.
func (n *node) eachGroup(take taker) {
	p := n.plan
	var groups []group
	places := map[string]int{}
	placeOf := func(common []api.Value) int {
		key := cell.Key(common)
		at, there := places[key]
		if !there {
			at = len(groups)
			places[key] = at
			groups = append(groups, group{common: common, gathered: make([]gathered, len(p.Aggs))})
		}
		return at
	}
	// Without columns there is one group, of no rows as well.
	if len(p.Cols) == 0 {
		placeOf(nil)
	}
	n.args[0].each(func(row []api.Value) {
		g := groups[placeOf(at(row, p.Cols))]
		for i, agg := range p.Aggs {
			g.gathered[i].add(agg.Fn, row[agg.Col])
		}
	})
	for _, g := range groups {
		row := g.common
		for i, agg := range p.Aggs {
			row = append(row, g.gathered[i].value(agg.Fn))
		}
		take(row)
	}
}

// gathered: what has been seen of a column, as far as one aggregate asks.
type gathered struct {
	rows  int
	sum   sum
	best  api.Value
	times map[string]int
}

// add a value, for the aggregate fn.
func (g *gathered) add(fn int, v api.Value) {
	g.rows++
	g.sum.add(v)
	if v.Kind == api.Null {
		return
	}
	switch fn {
	case api.Least:
		if g.best.Kind == api.Null || cell.Order(v, g.best) < 0 {
			g.best = v
		}
	case api.Most:
		// Null is ahead of all others.
		if cell.Order(v, g.best) > 0 {
			g.best = v
		}
	case api.CountEach:
		if g.times == nil {
			g.times = map[string]int{}
		}
		g.times[cell.Key([]api.Value{v})]++
	}
}

// value of the aggregate fn.
func (g *gathered) value(fn int) api.Value {
	switch fn {
	case api.CountAll:
		return integer(g.rows)
	case api.Count:
		return integer(g.sum.count)
	case api.Sum:
		return g.sum.value()
	case api.CountEach:
		return integer(len(g.times))
	}
	return g.best
}
