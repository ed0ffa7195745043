package run

import (
	"slices"

	"tallyhouse/api"
	"tallyhouse/plan"
)

// gathering of all rows of a flow, ahead of the first one that goes on.
type gathering struct {
	store
	from rows
	by   plan.Gatherer
	done bool
}

func (g *gathering) next() (batch, api.Errno) {
	if !g.done {
		if e := g.from.each(g.by.Add); e != api.OK {
			return nil, e
		}
		g.store.rows, g.done = g.by.Rows(), true
	}
	return g.batch(), api.OK
}

// join of two flows: the rows of the one are held, ahead of the first one of
// the other one.
type join struct {
	store
	held    rows
	passing rows
	pairing *plan.Pairing
	filled  bool // have all that are to be held been read?
	done    bool // have all others?
}

func (j *join) next() (batch, api.Errno) {
	if !j.filled {
		if e := j.held.each(j.pairing.Hold); e != api.OK {
			return nil, e
		}
		j.filled, j.done = true, j.pairing.IsVain()
	}
	for !j.done && len(j.store.rows) < j.size {
		if e := j.pass(); e != api.OK {
			return nil, e
		}
	}
	return j.batch(), api.OK
}

// pass the next row by those that are held; behind the last one come those
// that have had no partner.
func (j *join) pass() api.Errno {
	row, there, e := j.passing.Next()
	switch {
	case e != api.OK:
		return e
	case there:
		j.pairing.Pass(row, j.put)
	default:
		j.pairing.Rest(j.put)
		j.done = true
	}
	return api.OK
}

// put a pair, which is lent, into the store.
func (j *join) put(pair []api.Value) { j.store.rows = append(j.store.rows, slices.Clone(pair)) }
