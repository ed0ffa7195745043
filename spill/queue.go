package spill

import "tallyhouse/api"

// queue of rows: the first ones, at most so many, are held; the others lie in
// a run, which is asked for when it is needed.
type queue struct {
	*yard
	most  int
	held  [][]api.Value
	laid  int
	run   int
	asked bool
}

// Take a row behind the others.
func (q *queue) Take(row []api.Value) api.Errno {
	if q.laid == 0 && len(q.held) < q.most {
		q.held = append(q.held, row)
		return api.OK
	}
	if !q.asked {
		run, e := q.New()
		if e != api.OK {
			return e
		}
		q.run, q.asked = run, true
	}
	q.laid++
	return q.Put(q.run, row)
}

// pull the first row out of it; false: there is none.
func (q *queue) pull() ([]api.Value, bool, api.Errno) {
	if len(q.held) > 0 {
		row := q.held[0]
		q.held = q.held[1:]
		return row, true, api.OK
	}
	if q.laid == 0 {
		return nil, false, api.OK
	}
	q.laid--
	return q.Next(q.run)
}

// side of a pairing: rows in order, and the first of those that are still to
// be looked at, which is held.
type side struct {
	queue
	columns []int
	first   []api.Value
	there   bool
}

// step: the next row is the first one.
func (s *side) step() api.Errno {
	row, there, e := s.pull()
	s.first, s.there = row, there
	return e
}

// skip: likewise; the one that was it is let go of.
func (s *side) skip() api.Errno {
	s.Let(1)
	return s.step()
}

// quit: no row is held any more.
func (s *side) quit() {
	s.letGo(len(s.held))
	if s.there {
		s.Let(1)
	}
}
