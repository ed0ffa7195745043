package spill

import (
	"slices"

	"tallyhouse/api"
	"tallyhouse/cell"
)

// yard: the room of one call, and which of its runs are there.
type yard struct {
	api.Room
	runs map[int]struct{}
}

func yardOf(room api.Room) *yard { return &yard{Room: room, runs: map[int]struct{}{}} }

// New run, which is known from then on.
func (y *yard) New() (int, api.Errno) {
	run, e := y.Room.New()
	if e == api.OK {
		y.runs[run] = struct{}{}
	}
	return run, e
}

// Next row of a run, as one of the program's own.
func (y *yard) Next(run int) ([]api.Value, bool, api.Errno) { return own(y.Room.Next(run)) }

// Drop a run. It counts as dropped whatever the room answers, since no run may
// be dropped twice.
func (y *yard) Drop(run int) api.Errno {
	delete(y.runs, run)
	return y.Room.Drop(run)
}

// leave the room at the end of a call, of which e has come: each run that is
// left is dropped. What Drop answers counts only where there was no error yet.
func (y *yard) leave(e api.Errno) api.Errno {
	var left []int
	for run := range y.runs {
		left = append(left, run)
	}
	slices.Sort(left)
	for _, run := range left {
		if dropped := y.Drop(run); e == api.OK {
			e = dropped
		}
	}
	return e
}

// letGo of so many rows; of none the room is told nothing.
func (y *yard) letGo(rows int) {
	if rows > 0 {
		y.Let(rows)
	}
}

// own: what Next has answered, clean and in new memory, since who answered it
// may use its own again for the next one.
func own(row []api.Value, there bool, e api.Errno) ([]api.Value, bool, api.Errno) {
	if e != api.OK || !there {
		return nil, false, e
	}
	clean := make([]api.Value, len(row))
	for i, v := range row {
		clean[i] = cell.Clean(v)
	}
	return clean, true, api.OK
}

// outlet: the sink that the program was given. A row that went there is held
// no more.
type outlet struct {
	*yard
	out api.Sink
}

// Take a row.
func (o outlet) Take(row []api.Value) api.Errno {
	e := o.out.Take(row)
	if e == api.OK {
		o.Let(1)
	}
	return e
}

// pile: a run of the room as a sink.
type pile struct {
	*yard
	run int
}

// Take a row.
func (p pile) Take(row []api.Value) api.Errno { return p.Put(p.run, row) }

// handOn rows to a sink.
func handOn(rows [][]api.Value, to api.Sink) api.Errno {
	for _, row := range rows {
		if e := to.Take(row); e != api.OK {
			return e
		}
	}
	return api.OK
}
