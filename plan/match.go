package plan

import (
	"tallyhouse/api"
	"tallyhouse/cell"
	"tallyhouse/expr"
)

// Matching of the rows of the Args of a Join or LeftJoin: which of them are
// partners. What it answers is lent until it is asked again.
type Matching struct {
	pair  []api.Value    // both rows of the pair that is looked at
	sides [2][]api.Value // where in it each of them lies
	lone  []api.Value    // a row of the first side, with nulls behind it
	holds func(row []api.Value) api.Value
	// equal: what of each row must be equal to what of the other one, for
	// which a row of the pair is read alone.
	equal [2][]func(row []api.Value) api.Value
}

// NewMatching for p, whose Args have so many columns.
func NewMatching(p api.Plan, first, second int) *Matching {
	pair := make([]api.Value, first+second)
	condition := p.Exprs[0]
	m := &Matching{
		pair:  pair,
		sides: [2][]api.Value{pair[:first], pair[first:]},
		lone:  make([]api.Value, first+second),
		holds: expr.Ready(condition),
	}
	for _, part := range expr.Parts(condition) {
		if part.Op != api.Eq {
			continue
		}
		left, right := part.Args[0], part.Args[1]
		if sideOf(left, first) == 1 {
			left, right = right, left
		}
		if sideOf(left, first) == 0 && sideOf(right, first) == 1 {
			m.equal[0] = append(m.equal[0], expr.Ready(left))
			m.equal[1] = append(m.equal[1], expr.Ready(right))
		}
	}
	return m
}

// sideOf which of two rows the columns in e are, if the first one has so many;
// -1, if there are none, or of both.
func sideOf(e api.Expr, first int) int {
	columns := expr.Columns(e)
	switch {
	case len(columns) == 0:
		return -1
	case columns[len(columns)-1] < first:
		return 0
	case columns[0] >= first:
		return 1
	}
	return -1
}

// Lay a row where those of this side lie, and tell the key that a partner must
// have; false, if it has no partner, since a null is equal to nothing.
func (m *Matching) Lay(side int, row []api.Value) (string, bool) {
	copy(m.sides[side], row)
	values := make([]api.Value, len(m.equal[side]))
	for i, value := range m.equal[side] {
		values[i] = value(m.pair)
		if values[i].Kind == api.Null {
			return "", false
		}
	}
	return cell.Key(values), true
}

// Pair of a row of this side, which has the same key, and the one that was laid
// on the other side; is the condition true of it?
func (m *Matching) Pair(side int, row []api.Value) ([]api.Value, bool) {
	copy(m.sides[side], row)
	return m.pair, cell.True(m.holds(m.pair))
}

// Alone: a row of the first side, with nulls behind it.
func (m *Matching) Alone(row []api.Value) []api.Value {
	copy(m.lone, row)
	return m.lone
}
