package plan

import (
	"tallyhouse/api"
	"tallyhouse/cell"
	"tallyhouse/expr"
)

// most: above this spans are not told apart.
const most = 1 << 31

// span: a number of rows that a plan does not exceed.
func (n *node) span() int {
	span := 1
	for i := range n.args {
		more := n.args[i].span()
		switch n.plan.Op {
		case api.Join, api.LeftJoin:
			span = min(span*more, most)
		case api.Union:
			span = min(span+more, most)
		default:
			span = max(span, more)
		}
	}
	return max(span, len(n.table.Rows))
}

// pairing of the rows of two plans.
type pairing struct {
	pair  []api.Value    // both rows of the pair that is looked at
	sides [2][]api.Value // where in it each of them lies
	holds func(row []api.Value) api.Value
	// equal: what of each row must be equal to what of the other one, for
	// which a row of the pair is read alone.
	equal [2][]func(row []api.Value) api.Value
}

func newPairing(condition api.Expr, first, second int) pairing {
	pair := make([]api.Value, first+second)
	p := pairing{pair: pair, sides: [2][]api.Value{pair[:first], pair[first:]}, holds: expr.Ready(condition)}
	for _, part := range expr.Parts(condition) {
		if part.Op != api.Eq {
			continue
		}
		left, right := part.Args[0], part.Args[1]
		if sideOf(left, first) == 1 {
			left, right = right, left
		}
		if sideOf(left, first) == 0 && sideOf(right, first) == 1 {
			p.equal[0] = append(p.equal[0], expr.Ready(left))
			p.equal[1] = append(p.equal[1], expr.Ready(right))
		}
	}
	return p
}

// sideOf which of two rows the columns in e are, if the first one has so many;
// -1, if there are none, or of both.
func sideOf(e api.Expr, first int) int {
	columns := expr.Columns(e)
	switch {
	case len(columns) == 0:
		return -1
	case columns[len(columns)-1] < first:
		return 0
	case columns[0] >= first:
		return 1
	}
	return -1
}

// lay a row where those of this side lie, and tell the key that a partner must
// have; false, if it has no partner, since a null is equal to nothing.
func (p *pairing) lay(side int, row []api.Value) (string, bool) {
	copy(p.sides[side], row)
	values := make([]api.Value, len(p.equal[side]))
	for i, value := range p.equal[side] {
		values[i] = value(p.pair)
		if values[i].Kind == api.Null {
			return "", false
		}
	}
	return cell.Key(values), true
}

// eachPair of rows of both Args for which the condition is true; of a LeftJoin
// each row of the first one without a partner as well. The rows of the Arg
// that can have fewer are held, and those of the other one go by them.
func (n *node) eachPair(take taker) {
	p := newPairing(n.plan.Exprs[0], len(n.args[0].kinds), len(n.args[1].kinds))
	held, passing := 1, 0
	if n.args[0].span() < n.args[1].span() {
		held, passing = 0, 1
	}
	all := n.plan.Op == api.LeftJoin
	rows := n.args[held].rows()
	places := p.placesByKey(held, rows)
	met := make([]bool, len(rows))
	n.args[passing].each(func(row []api.Value) {
		alone := true
		key, can := p.lay(passing, row)
		if can {
			for _, i := range places[key] {
				copy(p.sides[held], rows[i])
				if cell.True(p.holds(p.pair)) {
					alone, met[i] = false, true
					take(p.pair)
				}
			}
		}
		if all && passing == 0 && alone {
			p.takeAlone(row, take)
		}
	})
	for i, row := range rows {
		if all && held == 0 && !met[i] {
			p.takeAlone(row, take)
		}
	}
}

// placesByKey: where those of the rows of this side are that have one key.
func (p *pairing) placesByKey(side int, rows [][]api.Value) map[string][]int {
	places := map[string][]int{}
	for i, row := range rows {
		if key, can := p.lay(side, row); can {
			places[key] = append(places[key], i)
		}
	}
	return places
}

// takeAlone a row of the first side, with nulls behind it.
func (p *pairing) takeAlone(row []api.Value, take taker) {
	copy(p.sides[0], row)
	clear(p.sides[1])
	take(p.pair)
}
