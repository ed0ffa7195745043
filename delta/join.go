package delta

import (
	"tallyhouse/api"
	"tallyhouse/plan"
)

// held: a row of one side of a join, and how often it stands there; of the first
// side of a LeftJoin, how many partners it has as well.
type held struct {
	row      []api.Value
	times    int64
	partners int64
	place    int // in the list of those that have the same key for partners
}

// side of a join: the rows that may have partners.
type side struct {
	rows map[string]*held   // by their own keys
	by   map[string][]*held // by the key that a partner must have
}

func newSide() side { return side{rows: map[string]*held{}, by: map[string][]*held{}} }

// hold a row, which is kept, so many times more, or less.
func (s side) hold(by, key string, row []api.Value, times int64) *held {
	one := s.rows[key]
	if one == nil {
		one = &held{row: row, place: len(s.by[by])}
		s.rows[key] = one
		s.by[by] = append(s.by[by], one)
	}
	one.times += times
	if one.times == 0 {
		delete(s.rows, key)
		s.drop(by, one)
	}
	return one
}

// drop a row out of its list: the last one takes its place.
func (s side) drop(by string, one *held) {
	list := s.by[by]
	end := len(list) - 1
	last := list[end]
	list[one.place], last.place = last, one.place
	list[end] = nil
	s.by[by] = list[:end]
	if end == 0 {
		delete(s.by, by)
	}
}

// pairs of rows of two sides.
type pairs struct {
	*plan.Matching
	from  [2]operator
	sides [2]side
}

func newPairs(p api.Plan, args []operator, tables []api.Table) pairs {
	return pairs{
		Matching: plan.NewMatching(p, width(p.Args[0], tables), width(p.Args[1], tables)),
		from:     [2]operator{args[0], args[1]},
		sides:    [2]side{newSide(), newSide()},
	}
}

// eachChange of a row of either side: first of those that go, then of those that
// come. So no pair is looked at that there neither was nor will be: if one side
// shrinks while the other one grows, these may be far more than all others.
func (p pairs) eachChange(in changes, change func(side int, key string, times int64)) {
	sums := [2]bag{gathered(p.from[0], in), gathered(p.from[1], in)}
	for _, comes := range [2]bool{false, true} {
		for side, sum := range sums {
			for key, times := range sum {
				if (times > 0) == comes {
					change(side, key, times)
				}
			}
		}
	}
}

// eachPair of the row that was laid on one side, and a row of the other one that
// has this key.
func (p pairs) eachPair(side int, by string, see func(pair []api.Value, other *held)) {
	for _, other := range p.sides[side].by[by] {
		if pair, match := p.Pair(side, other.row); match {
			see(pair, other)
		}
	}
}

// join: each pair for which a condition is true.
type join struct {
	pairs
}

func (j *join) step(in changes, take taker) {
	j.eachChange(in, func(side int, key string, times int64) {
		row := rowOf(key)
		by, can := j.Lay(side, row)
		if !can {
			return
		}
		j.eachPair(1-side, by, func(pair []api.Value, other *held) { take(pair, times*other.times) })
		j.sides[side].hold(by, key, row, times)
	})
}

// leftJoin: likewise, and each row of the first side that has no partner.
type leftJoin struct {
	pairs
}

func (j *leftJoin) step(in changes, take taker) {
	j.eachChange(in, func(side int, key string, times int64) {
		if side == 0 {
			j.changeFirst(key, times, take)
		} else {
			j.changeSecond(key, times, take)
		}
	})
}

// changeFirst: a row of the first side comes or goes, with its pairs or alone.
func (j *leftJoin) changeFirst(key string, times int64, take taker) {
	row, partners := rowOf(key), int64(0)
	if by, can := j.Lay(0, row); can {
		j.eachPair(1, by, func(pair []api.Value, other *held) {
			partners += other.times
			take(pair, times*other.times)
		})
		j.sides[0].hold(by, key, row, times).partners = partners
	}
	if partners == 0 {
		take(j.Alone(row), times)
	}
}

// changeSecond: a row of the second side comes or goes, and with it its pairs;
// whoever has the first partner by it, or no other one, stood or stands alone.
func (j *leftJoin) changeSecond(key string, times int64, take taker) {
	row := rowOf(key)
	by, can := j.Lay(1, row)
	if !can {
		return
	}
	j.eachPair(0, by, func(pair []api.Value, other *held) {
		take(pair, times*other.times)
		if other.partners == 0 {
			take(j.Alone(other.row), -other.times)
		}
		other.partners += times
		if other.partners == 0 {
			take(j.Alone(other.row), other.times)
		}
	})
	j.sides[1].hold(by, key, row, times)
}
