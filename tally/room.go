package tally

import "tallyhouse/api"

// room for the runs of one question, and the sink for its answer. The rows that
// it is handed are its own.
type room struct {
	runs   map[int][][]api.Value
	made   int // how many runs there have been
	answer [][]api.Value
}

func newRoom() *room { return &room{runs: map[int][][]api.Value{}} }

// New run.
func (r *room) New() (int, api.Errno) {
	r.made++
	r.runs[r.made] = nil
	return r.made, api.OK
}

// Put a row into a run.
func (r *room) Put(run int, row []api.Value) api.Errno {
	r.runs[run] = append(r.runs[run], row)
	return api.OK
}

// Next row of a run.
func (r *room) Next(run int) ([]api.Value, bool, api.Errno) {
	rows := r.runs[run]
	if len(rows) == 0 {
		return nil, false, api.OK
	}
	r.runs[run] = rows[1:]
	return rows[0], true, api.OK
}

// Drop a run.
func (r *room) Drop(run int) api.Errno {
	delete(r.runs, run)
	return api.OK
}

// Let rows go: nobody counts here which ones are held.
func (r *room) Let(int) {}

// Take a row of the answer.
func (r *room) Take(row []api.Value) api.Errno {
	r.answer = append(r.answer, row)
	return api.OK
}
