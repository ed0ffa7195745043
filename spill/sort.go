package spill

import (
	"slices"

	"tallyhouse/api"
)

// sorter puts the rows of a stream in order, with no more than budget of them
// held; each once, if so asked.
type sorter struct {
	*yard
	order  order
	once   bool
	budget int
	runs   []int // each in order
}

// sort the rows of in, and hand them to a sink.
func (s *sorter) sort(in api.Stream, to api.Sink) api.Errno {
	rest, e := s.gather(in)
	if e != api.OK {
		return e
	}
	if len(s.runs) == 0 {
		return handOn(rest, to)
	}
	if e := s.layRest(rest); e != api.OK {
		return e
	}
	if e := s.mergeSome(); e != api.OK {
		return e
	}
	return s.merge(s.runs, to)
}

// gather reads all rows, and lays those that are held into a run as often as
// no more may be held. The rest, in order, is still held.
func (s *sorter) gather(in api.Stream) ([][]api.Value, api.Errno) {
	var rows [][]api.Value
	for {
		row, there, e := own(in.Next())
		if e != api.OK {
			return nil, e
		}
		if !there {
			return s.sorted(rows), api.OK
		}
		rows = append(rows, row)
		if len(rows) < s.budget {
			continue
		}
		rows = s.sorted(rows)
		// Where many rows stand several times there is room for as many
		// others; a few would not be worth putting all in order again.
		if len(rows) > s.budget/2 {
			if e := s.lay(rows); e != api.OK {
				return nil, e
			}
			clear(rows)
			rows = rows[:0]
		}
	}
}

// sorted: the rows in order; those that go since each stands there once are let
// go of.
func (s *sorter) sorted(rows [][]api.Value) [][]api.Value {
	slices.SortFunc(rows, s.order)
	if !s.once {
		return rows
	}
	unlike := slices.CompactFunc(rows, func(a, b []api.Value) bool { return s.order(a, b) == 0 })
	s.letGo(len(rows) - len(unlike))
	return unlike
}

// lay rows that are in order into a run, the last of all.
func (s *sorter) lay(rows [][]api.Value) api.Errno {
	run, e := s.New()
	if e != api.OK {
		return e
	}
	s.runs = append(s.runs, run)
	return handOn(rows, pile{yard: s.yard, run: run})
}

// layRest: likewise, but as the first of all, so that no run is shorter than
// one ahead of it: the shorter ones are merged first.
func (s *sorter) layRest(rows [][]api.Value) api.Errno {
	if len(rows) == 0 {
		return api.OK
	}
	e := s.lay(rows)
	last := len(s.runs) - 1
	if e == api.OK {
		s.runs = slices.Insert(s.runs[:last], 0, s.runs[last])
	}
	return e
}

// mergeSome of the runs, until there are no more than can be merged at once.
// The first time it takes only so many that later ones can take as many as
// can be: then the fewest Puts are made.
func (s *sorter) mergeSome() api.Errno {
	most := s.mostAtOnce()
	for len(s.runs) > most {
		count := (len(s.runs)-2)%(most-1) + 2
		run, e := s.New()
		if e != api.OK {
			return e
		}
		if e := s.merge(s.runs[:count], pile{yard: s.yard, run: run}); e != api.OK {
			return e
		}
		s.runs = append(s.runs[count:], run)
	}
	return api.OK
}

// mostAtOnce: of each run that is merged a row is held, and the one beside them
// that is handed on.
func (s *sorter) mostAtOnce() int { return s.budget - 1 }

// merge runs into a sink; they are dropped.
func (s *sorter) merge(runs []int, to api.Sink) api.Errno {
	m := merger{yard: s.yard, order: s.order}
	if e := m.open(runs); e != api.OK {
		return e
	}
	for len(m.heads) > 0 {
		row := m.heads[0].row
		if e := m.step(); e != api.OK {
			return e
		}
		if s.once {
			if e := m.skip(row); e != api.OK {
				return e
			}
		}
		if e := to.Take(row); e != api.OK {
			return e
		}
	}
	return api.OK
}
