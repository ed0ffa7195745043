package plan

import (
	"slices"

	"tallyhouse/api"
	"tallyhouse/cell"
	"tallyhouse/expr"
)

// most: above this spans are not told apart.
const most = 1 << 31

// Span: a number of rows that a plan of this operator does not exceed, if its
// Args do not exceed these.
func Span(op int, args []int) int {
	span := 1
	for _, arg := range args {
		more := min(arg, most)
		switch op {
		case api.Join, api.LeftJoin:
			span = min(span*more, most)
		case api.Union:
			span = min(span+more, most)
		default:
			span = max(span, more)
		}
	}
	return span
}

func (n *node) span() int {
	args := make([]int, len(n.args))
	for i := range n.args {
		args[i] = n.args[i].span()
	}
	return max(Span(n.plan.Op, args), len(n.table.Rows))
}

// Pairing of the rows of the Args of a Join or LeftJoin: those of the one are
// held, and those of the other one go by them.
type Pairing struct {
	pair  []api.Value    // both rows of the pair that is looked at
	sides [2][]api.Value // where in it each of them lies
	holds func(row []api.Value) api.Value
	// equal: what of each row must be equal to what of the other one, for
	// which a row of the pair is read alone.
	equal [2][]func(row []api.Value) api.Value
	held  int  // the number of the Arg whose rows are held
	alone bool // does a row of the first Arg stand for itself, if it has no partner?
	rows  [][]api.Value
	met   []bool           // which of them have had a partner
	by    map[string][]int // which of them have one key
}

// NewPairing for p, whose Args have so many columns; the rows of the Arg of
// this number are to be held.
func NewPairing(p api.Plan, first, second, held int) *Pairing {
	pair := make([]api.Value, first+second)
	condition := p.Exprs[0]
	made := &Pairing{
		pair:  pair,
		sides: [2][]api.Value{pair[:first], pair[first:]},
		holds: expr.Ready(condition),
		held:  held,
		alone: p.Op == api.LeftJoin,
		by:    map[string][]int{},
	}
	for _, part := range expr.Parts(condition) {
		if part.Op != api.Eq {
			continue
		}
		left, right := part.Args[0], part.Args[1]
		if sideOf(left, first) == 1 {
			left, right = right, left
		}
		if sideOf(left, first) == 0 && sideOf(right, first) == 1 {
			made.equal[0] = append(made.equal[0], expr.Ready(left))
			made.equal[1] = append(made.equal[1], expr.Ready(right))
		}
	}
	return made
}

// sideOf which of two rows the columns in e are, if the first one has so many;
// -1, if there are none, or of both.
func sideOf(e api.Expr, first int) int {
	columns := expr.Columns(e)
	switch {
	case len(columns) == 0:
		return -1
	case columns[len(columns)-1] < first:
		return 0
	case columns[0] >= first:
		return 1
	}
	return -1
}

// lay a row where those of this side lie, and tell the key that a partner must
// have; false, if it has no partner, since a null is equal to nothing.
func (p *Pairing) lay(side int, row []api.Value) (string, bool) {
	copy(p.sides[side], row)
	values := make([]api.Value, len(p.equal[side]))
	for i, value := range p.equal[side] {
		values[i] = value(p.pair)
		if values[i].Kind == api.Null {
			return "", false
		}
	}
	return cell.Key(values), true
}

// standAlone: does a row of this side stand for itself, if it has no partner?
func (p *Pairing) standAlone(side int) bool { return p.alone && side == 0 }

// Hold a row, if anything can come of it. It is lent for the call alone.
func (p *Pairing) Hold(row []api.Value) {
	key, can := p.lay(p.held, row)
	if can {
		p.by[key] = append(p.by[key], len(p.rows))
	}
	if can || p.standAlone(p.held) {
		p.rows = append(p.rows, slices.Clone(row))
		p.met = append(p.met, false)
	}
}

// IsVain: will nothing come of any row that goes by?
func (p *Pairing) IsVain() bool { return len(p.rows) == 0 && !p.standAlone(1-p.held) }

// Pass a row by those that are held: each pair for which the condition is true
// is handed to take; or it alone, if there is none. All is lent for the call.
func (p *Pairing) Pass(row []api.Value, take func(pair []api.Value)) {
	passing := 1 - p.held
	alone := p.standAlone(passing)
	if key, can := p.lay(passing, row); can {
		for _, i := range p.by[key] {
			copy(p.sides[p.held], p.rows[i])
			if cell.True(p.holds(p.pair)) {
				alone, p.met[i] = false, true
				take(p.pair)
			}
		}
	}
	if alone {
		p.takeAlone(row, take)
	}
}

// Rest: behind all that went by, each row that was held and stands alone.
func (p *Pairing) Rest(take func(pair []api.Value)) {
	for i, row := range p.rows {
		if p.standAlone(p.held) && !p.met[i] {
			p.takeAlone(row, take)
		}
	}
}

// takeAlone a row of the first side, with nulls behind it.
func (p *Pairing) takeAlone(row []api.Value, take func(pair []api.Value)) {
	copy(p.sides[0], row)
	clear(p.sides[1])
	take(p.pair)
}

// eachPair of rows of both Args for which the condition is true; of a LeftJoin
// each row of the first one without a partner as well. The rows of the Arg
// that can have fewer are held.
func (n *node) eachPair(take taker) {
	held, passing := 1, 0
	if n.args[0].span() < n.args[1].span() {
		held, passing = 0, 1
	}
	p := NewPairing(n.plan, len(n.args[0].kinds), len(n.args[1].kinds), held)
	n.args[held].each(p.Hold)
	n.args[passing].each(func(row []api.Value) { p.Pass(row, take) })
	p.Rest(take)
}
