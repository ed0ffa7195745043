package spill

import (
	"slices"

	"tallyhouse/api"
	"tallyhouse/cell"
)

// pairing of two sides. Beside what the sides and the group hold at most four
// rows are held: one of a, the next one of a, the next one of b, and one of the
// group that was laid away.
type pairing struct {
	*yard
	a, b  side
	group queue // rows of b that are paired with more than one row of a
	out   api.Sink
}

func pairingOf(y *yard, left, right []int, budget int, out api.Sink) *pairing {
	spare := budget - 4
	// A row of a side is laid away once, but one of the group as often as
	// there are rows of a: so the group may hold the most.
	most := spare / 4
	return &pairing{
		yard:  y,
		a:     side{queue: queue{yard: y, most: most}, columns: left},
		b:     side{queue: queue{yard: y, most: most}, columns: right},
		group: queue{yard: y, most: spare - 2*most},
		out:   out,
	}
}

// pair the rows of two streams.
func (p *pairing) pair(a, b api.Stream, budget int) api.Errno {
	if e := p.fill(&p.a, a, budget-p.a.most); e != api.OK {
		return e
	}
	if e := p.fill(&p.b, b, budget-p.a.most-p.b.most); e != api.OK {
		return e
	}
	if e := p.a.step(); e != api.OK {
		return e
	}
	if e := p.b.step(); e != api.OK {
		return e
	}
	if e := p.match(); e != api.OK {
		return e
	}
	p.a.quit()
	p.b.quit()
	return api.OK
}

// fill a side with those rows of a stream that may have a partner, in order.
// As many rows as it may hold are not counted in budget.
func (p *pairing) fill(s *side, in api.Stream, budget int) api.Errno {
	by := sorter{yard: p.yard, order: inOrder(rising(s.columns)), budget: budget}
	return by.sort(whole{Stream: in, yard: p.yard, columns: s.columns}, &s.queue)
}

// match the rows of both sides.
func (p *pairing) match() api.Errno {
	for p.a.there && p.b.there {
		var e api.Errno
		switch found := p.order(p.a.first, p.b.first); {
		case found < 0:
			e = p.a.skip()
		case found > 0:
			e = p.b.skip()
		default:
			e = p.matchEqual()
		}
		if e != api.OK {
			return e
		}
	}
	return api.OK
}

// order of a row of a and a row of b by the values that must be the same.
func (p *pairing) order(a, b []api.Value) int {
	return byColumns(a, p.a.columns, b, p.b.columns)
}

// matchEqual: the rows of both sides that have the values of the first ones.
// Those of b come from their side for the first row of a, and from the group
// for others.
func (p *pairing) matchEqual() api.Errno {
	again := true
	for pass := p.passSide; again; pass = p.passGroup {
		row := p.a.first
		times, e := p.stepOver()
		if e != api.OK {
			return e
		}
		again = p.a.there && byColumns(row, p.a.columns, p.a.first, p.a.columns) == 0
		if e := pass(row, times, again); e != api.OK {
			return e
		}
		p.Let(1)
	}
	return api.OK
}

// stepOver the first row of a, which stays held, and all that are the same; how
// many they are. Pairs of rows that are the same stand side by side.
func (p *pairing) stepOver() (int, api.Errno) {
	row, times := p.a.first, 1
	e := p.a.step()
	for e == api.OK && p.a.there && cell.Rows(row, p.a.first) == 0 {
		times++
		e = p.a.skip()
	}
	return times, e
}

// passSide: a row of a with all of b's side that fit; they come into the group,
// if they are asked for again.
func (p *pairing) passSide(row []api.Value, times int, again bool) api.Errno {
	for p.b.there && p.order(row, p.b.first) == 0 {
		if e := p.hand(row, p.b.first, times); e != api.OK {
			return e
		}
		if e := p.keep(&p.group, p.b.first, again); e != api.OK {
			return e
		}
		if e := p.b.step(); e != api.OK {
			return e
		}
	}
	return api.OK
}

// passGroup: a row of a with all of the group; it has no rows any more, if they
// are not asked for again.
func (p *pairing) passGroup(row []api.Value, times int, again bool) api.Errno {
	for _, other := range p.group.held {
		if e := p.hand(row, other, times); e != api.OK {
			return e
		}
	}
	// Each row is put behind the others: when all had their turn they lie as
	// they lay.
	for range p.group.laid {
		other, there, e := p.Next(p.group.run)
		if e != api.OK || !there {
			return e
		}
		if e := p.hand(row, other, times); e != api.OK {
			return e
		}
		if e := p.keep(pile{yard: p.yard, run: p.group.run}, other, again); e != api.OK {
			return e
		}
	}
	if !again {
		p.letGo(len(p.group.held))
		p.group.held, p.group.laid = nil, 0
	}
	return api.OK
}

// keep a row in a sink, if it is asked for again; else it is let go of.
func (p *pairing) keep(in api.Sink, row []api.Value, again bool) api.Errno {
	if again {
		return in.Take(row)
	}
	p.Let(1)
	return api.OK
}

// hand a pair out, so many times.
func (p *pairing) hand(a, b []api.Value, times int) api.Errno {
	for range times {
		if e := p.out.Take(slices.Concat(a, b)); e != api.OK {
			return e
		}
	}
	return api.OK
}

// whole: of a stream those rows that have no null in some columns; the others
// are let go of.
type whole struct {
	api.Stream
	yard    *yard
	columns []int
}

// Next row.
func (w whole) Next() ([]api.Value, bool, api.Errno) {
	for {
		row, there, e := w.Stream.Next()
		if e != api.OK || !there || hasAll(row, w.columns) {
			return row, there, e
		}
		w.yard.Let(1)
	}
}
