package plan

import (
	"slices"

	"tallyhouse/api"
)

// most: above this spans are not told apart.
const most = 1 << 31

// Span: a number of rows that a plan of this operator does not exceed, if its
// Args do not exceed these.
func Span(op int, args []int) int {
	span := 1
	for _, arg := range args {
		more := min(arg, most)
		switch op {
		case api.Join, api.LeftJoin:
			span = min(span*more, most)
		case api.Union:
			span = min(span+more, most)
		default:
			span = max(span, more)
		}
	}
	return span
}

func (n *node) span() int {
	args := make([]int, len(n.args))
	for i := range n.args {
		args[i] = n.args[i].span()
	}
	return max(Span(n.plan.Op, args), len(n.table.Rows))
}

// Pairing of the rows of the Args of a Join or LeftJoin: those of the one are
// held, and those of the other one go by them.
type Pairing struct {
	*Matching
	held  int  // the number of the Arg whose rows are held
	alone bool // does a row of the first Arg stand for itself, if it has no partner?
	rows  [][]api.Value
	met   []bool           // which of them have had a partner
	by    map[string][]int // which of them have one key
}

// NewPairing for p, whose Args have so many columns; the rows of the Arg of
// this number are to be held.
func NewPairing(p api.Plan, first, second, held int) *Pairing {
	return &Pairing{Matching: NewMatching(p, first, second), held: held, alone: p.Op == api.LeftJoin, by: map[string][]int{}}
}

// standAlone: does a row of this side stand for itself, if it has no partner?
func (p *Pairing) standAlone(side int) bool { return p.alone && side == 0 }

// Hold a row, if anything can come of it. It is lent for the call alone.
func (p *Pairing) Hold(row []api.Value) {
	key, can := p.Lay(p.held, row)
	if can {
		p.by[key] = append(p.by[key], len(p.rows))
	}
	if can || p.standAlone(p.held) {
		p.rows = append(p.rows, slices.Clone(row))
		p.met = append(p.met, false)
	}
}

// IsVain: will nothing come of any row that goes by?
func (p *Pairing) IsVain() bool { return len(p.rows) == 0 && !p.standAlone(1-p.held) }

// Pass a row by those that are held: each pair for which the condition is true
// is handed to take; or it alone, if there is none. All is lent for the call.
func (p *Pairing) Pass(row []api.Value, take func(pair []api.Value)) {
	passing := 1 - p.held
	alone := p.standAlone(passing)
	if key, can := p.Lay(passing, row); can {
		for _, i := range p.by[key] {
			if pair, match := p.Pair(p.held, p.rows[i]); match {
				alone, p.met[i] = false, true
				take(pair)
			}
		}
	}
	if alone {
		take(p.Alone(row))
	}
}

// Rest: behind all that went by, each row that was held and stands alone.
func (p *Pairing) Rest(take func(pair []api.Value)) {
	for i, row := range p.rows {
		if p.standAlone(p.held) && !p.met[i] {
			take(p.Alone(row))
		}
	}
}

// eachPair of rows of both Args for which the condition is true; of a LeftJoin
// each row of the first one without a partner as well. The rows of the Arg
// that can have fewer are held.
func (n *node) eachPair(take taker) {
	held, passing := 1, 0
	if n.args[0].span() < n.args[1].span() {
		held, passing = 0, 1
	}
	p := NewPairing(n.plan, len(n.args[0].kinds), len(n.args[1].kinds), held)
	n.args[held].each(p.Hold)
	n.args[passing].each(func(row []api.Value) { p.Pass(row, take) })
	p.Rest(take)
}
