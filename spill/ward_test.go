package spill_test

import (
	"fmt"
	"maps"
	"slices"
	"testing"

	"tallyhouse/api"
	"tallyhouse/cell"
)

// ward: a room, a sink, and streams, that hold a call to the document's words
// and are as unkind as these allow: all rows that are answered lie in one
// memory and are not clean, rows that are handed in are spoiled, the numbers of
// runs are odd ones, and are used again.
type ward struct {
	budget      int
	held        int
	calls       int
	news, puts  int
	together    int // the most runs that were there at a time
	out         [][]api.Value
	runs        map[int][][]api.Value
	free        []int // numbers of runs that were dropped
	dropped     []int // since the refusal
	told        int   // how many runs New has told
	drops       int
	refuse      int       // the number of the call that is refused; 0: none
	refuseDrop  int       // the number of the Drop that is refused; 0: none
	code        api.Errno // with which it is refused
	dropCode    api.Errno // what Drop answers behind a refusal
	refused     bool
	lose        int // each so-manieth row of a run is lost; 0: none
	answered    int
	memory      []api.Value
	beforeFirst func() // what is done ahead of the first answer
	wrong       string
}

func newWard(budget int) *ward { return &ward{budget: budget, runs: map[int][][]api.Value{}} }

// fault: the first one is told.
func (w *ward) fault(format string, args ...any) {
	if w.wrong == "" {
		w.wrong = fmt.Sprintf(format, args...)
	}
}

// call: OK, or the refusal of this one.
func (w *ward) call(what string) api.Errno {
	if w.refused {
		w.fault("%s behind a refusal", what)
	}
	w.calls++
	if w.calls == 1 && w.beforeFirst != nil {
		w.beforeFirst()
	}
	if w.calls == w.refuse {
		w.refused = true
		return w.code
	}
	return api.OK
}

func (w *ward) hold(rows int) {
	w.held += rows
	if w.held > w.budget || w.held < 0 {
		w.fault("%d rows are held", w.held)
	}
}

// answer a row in the one memory, with what a kind does not need filled.
func (w *ward) answer(row []api.Value) ([]api.Value, bool, api.Errno) {
	w.hold(1)
	w.memory = append(w.memory[:0], row...)
	for i, v := range w.memory {
		switch cell.Clean(v).Kind {
		case api.Int:
			w.memory[i].S = "needless"
		case api.Text:
			w.memory[i].N = 77
		default:
			w.memory[i] = api.Value{Kind: 3 + i%2, N: 5, S: "needless"}
		}
	}
	return w.memory, true, api.OK
}

// copied: the row as it is; the one that was handed in is spoiled.
func (w *ward) copied(what string, row []api.Value) []api.Value {
	kept := slices.Clone(row)
	for _, v := range row {
		if v != cell.Clean(v) {
			w.fault("%s of %v, which is not clean", what, row)
		}
	}
	all := row[:cap(row)]
	for i := range all {
		all[i] = api.Value{Kind: api.Text, S: "spoiled"}
	}
	return kept
}

// stream of a ward.
type stream struct {
	*ward
	rows  [][]api.Value
	ended bool
}

func (w *ward) stream(rows [][]api.Value) api.Stream { return &stream{ward: w, rows: rows} }

func (s *stream) Next() ([]api.Value, bool, api.Errno) {
	// Beside a refusal, and at the end, stands something that is not to be
	// looked at.
	odd := []api.Value{{Kind: api.Text, S: "none"}}
	if e := s.call("Next of a stream"); e != api.OK {
		return odd, true, e
	}
	if s.ended {
		s.fault("Next of a stream that has ended")
	}
	if len(s.rows) == 0 {
		s.ended = true
		return odd, false, api.OK
	}
	row := s.rows[0]
	s.rows = s.rows[1:]
	return s.answer(row)
}

func (w *ward) Take(row []api.Value) api.Errno {
	if e := w.call("Take"); e != api.OK {
		return e
	}
	if w.held == 0 {
		w.fault("Take while no row is held")
	}
	w.out = append(w.out, w.copied("Take", row))
	return api.OK
}

// New: the numbers fall, from 5 to below 0; those of dropped runs come again.
func (w *ward) New() (int, api.Errno) {
	if e := w.call("New"); e != api.OK {
		return 5, e
	}
	number := 5 - w.told
	if last := len(w.free) - 1; last >= 0 {
		number, w.free = w.free[last], w.free[:last]
	} else {
		w.told++
	}
	w.news++
	w.runs[number] = nil
	w.together = max(w.together, len(w.runs))
	return number, api.OK
}

func (w *ward) isThere(what string, run int) {
	if _, there := w.runs[run]; !there {
		w.fault("%s of run %d, which is not there", what, run)
	}
}

func (w *ward) Put(run int, row []api.Value) api.Errno {
	if e := w.call("Put"); e != api.OK {
		return e
	}
	w.isThere("Put", run)
	w.puts++
	w.runs[run] = append(w.runs[run], w.copied("Put", row))
	w.hold(-1)
	return api.OK
}

func (w *ward) Next(run int) ([]api.Value, bool, api.Errno) {
	odd := []api.Value{{Kind: api.Text, S: "none"}}
	if e := w.call("Next of a run"); e != api.OK {
		return odd, true, e
	}
	w.isThere("Next", run)
	w.answered++
	if w.lose > 0 && w.answered%w.lose == 0 && len(w.runs[run]) > 0 {
		w.runs[run] = w.runs[run][1:]
	}
	if len(w.runs[run]) == 0 {
		return odd, false, api.OK
	}
	row := w.runs[run][0]
	w.runs[run] = w.runs[run][1:]
	return w.answer(row)
}

func (w *ward) Drop(run int) api.Errno {
	w.isThere("Drop", run)
	delete(w.runs, run)
	w.free = append(w.free, run)
	w.drops++
	if w.refused {
		w.dropped = append(w.dropped, run)
		return w.dropCode
	}
	if w.drops == w.refuseDrop {
		w.refused = true
		return w.code
	}
	return api.OK
}

func (w *ward) Let(rows int) {
	if w.refused {
		w.fault("Let behind a refusal")
	}
	if rows == 0 {
		w.fault("Let of 0")
	}
	w.hold(-rows)
}

// check what holds at the end of every call.
func (w *ward) check(t *testing.T, what string, e api.Errno) {
	t.Helper()
	if w.wrong != "" {
		t.Errorf("%s: %s", what, w.wrong)
	}
	if len(w.runs) != 0 {
		t.Errorf("%s: not dropped: %v", what, slices.Sorted(maps.Keys(w.runs)))
	}
	if !slices.IsSorted(w.dropped) {
		t.Errorf("%s: dropped in the order %v", what, w.dropped)
	}
	want := api.OK
	if w.refused {
		want = w.code
	}
	if e != want {
		t.Errorf("%s: %d, not %d", what, e, want)
	}
	if e == api.OK && w.held != 0 {
		t.Errorf("%s: %d rows are held at the end", what, w.held)
	}
}
