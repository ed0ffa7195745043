package plan

import (
	"slices"

	"tallyhouse/api"
	"tallyhouse/cell"
)

// parts of the rows of a Window: those with equal values in its columns.
type parts struct {
	plan   api.Plan
	list   [][][]api.Value
	places map[string]int
}

func newParts(p api.Plan) *parts { return &parts{plan: p, places: map[string]int{}} }

// Add a row to its part.
func (p *parts) Add(row []api.Value) {
	key := cell.Key(At(row, p.plan.Cols))
	place, there := p.places[key]
	if !there {
		place = len(p.list)
		p.places[key] = place
		p.list = append(p.list, nil)
	}
	// There is room for what the window function says of it.
	held := append(make([]api.Value, 0, len(row)+1), row...)
	p.list[place] = append(p.list[place], held)
}

// Rows: each row, and what the window function says of it in its part.
func (p *parts) Rows() [][]api.Value {
	var rows [][]api.Value
	for _, part := range p.list {
		slices.SortFunc(part, InOrder(p.plan.Keys))
		for i, value := range InPart(p.plan, part) {
			rows = append(rows, append(part[i], value))
		}
	}
	return rows
}

// InPart: what the function of p, a Window, says of each row of a part that is in
// order.
func InPart(p api.Plan, part [][]api.Value) []api.Value {
	switch p.Fn {
	case api.Number:
		return numbered(part)
	case api.Rank, api.Dense:
		return ranked(part, p.Keys, p.Fn == api.Dense)
	case api.Ahead:
		return ahead(part, p.Col, p.N)
	}
	return summed(part, p.Col, p.N, p.Fn == api.CountOver)
}

func numbered(part [][]api.Value) []api.Value {
	values := make([]api.Value, len(part))
	for i := range part {
		values[i] = Integer(int64(i + 1))
	}
	return values
}

// ranked: rows that are equal by keys have one rank, that of the first of
// them; in a dense one no number is left out.
func ranked(part [][]api.Value, keys []api.Key, dense bool) []api.Value {
	order := byKeys(keys)
	values := make([]api.Value, len(part))
	unlike, first := 0, 0
	for i, row := range part {
		if i == 0 || order(part[i-1], row) != 0 {
			unlike, first = unlike+1, i
		}
		if dense {
			values[i] = Integer(int64(unlike))
		} else {
			values[i] = Integer(int64(first + 1))
		}
	}
	return values
}

// ahead: the column's value in the row that is n rows ahead.
func ahead(part [][]api.Value, column, n int) []api.Value {
	values := make([]api.Value, len(part))
	for i := range part {
		if n <= i {
			values[i] = part[i-n][column]
		}
	}
	return values
}

// summed: the sum, or the count, of the column over each row and the n rows
// ahead of it; over all ahead, if n is below 0.
func summed(part [][]api.Value, column, n int, count bool) []api.Value {
	values := make([]api.Value, len(part))
	var over Sum
	for i, row := range part {
		over.Add(row[column], 1)
		if n >= 0 && i > n {
			over.Add(part[i-n-1][column], -1)
		}
		if count {
			values[i] = Integer(over.Count())
		} else {
			values[i] = over.Value()
		}
	}
	return values
}
