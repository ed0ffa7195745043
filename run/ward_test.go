package run_test

import (
	"fmt"
	"maps"
	"slices"
	"testing"

	"tallyhouse/api"
	"tallyhouse/cell"
	"tallyhouse/run"
	"tallyhouse/seg"
)

// shelf of a ward: the segments of a table, and what is told of them.
type shelf struct {
	segments []string
	heads    []api.Head
}

// ask of a segment: was it read?
type ask struct {
	table string
	k     int
	read  bool
}

func (a ask) String() string {
	return fmt.Sprintf("%s %s%d", map[bool]string{false: "head", true: "read"}[a.read], a.table, a.k)
}

// ward: a source, a room and a sink in one. It holds whoever calls it to the
// document's words: nothing is asked behind a refusal, no more rows are held
// than may be, each run is there that is spoken of. What it answers it changes
// at the next call of anything, and it spoils what it is handed.
type ward struct {
	tables     []api.Table // without rows
	shelves    map[string]shelf
	budget     int
	asked      []ask
	told       int // how often Tables was called
	counted    []string
	held       int
	puts, news int
	out        [][]api.Value
	runs       map[int][][]api.Value
	dropped    []int // behind a refusal
	drops      int
	calls      int
	refuse     int       // the number of the call that is refused; 0: none
	refuseDrop int       // the number of the Drop that is refused; 0: none
	code       api.Errno // with which it is refused
	dropCode   api.Errno // what Drop answers behind a refusal
	refused    bool
	spoils     []func() // what is done to answers at the next call
	wrong      string
}

// newWard of tables, each in segments of as many rows as sizes say, in turn.
func newWard(t *testing.T, budget int, tables []api.Table, sizes ...int) *ward {
	t.Helper()
	w := &ward{shelves: map[string]shelf{}, budget: budget, runs: map[int][][]api.Value{}}
	for _, table := range tables {
		w.tables = append(w.tables, api.Table{Name: table.Name, Columns: table.Columns})
		var on shelf
		rest := table.Rows
		for i := 0; len(rest) > 0; i++ {
			size := min(sizes[i%len(sizes)], len(rest))
			on = on.with(t, kindsOf(table), rest[:size])
			rest = rest[size:]
		}
		w.shelves[table.Name] = on
	}
	return w
}

// with one more segment, of these rows.
func (s shelf) with(t *testing.T, kinds []int, rows [][]api.Value) shelf {
	t.Helper()
	segment, e := seg.Build(kinds, rows)
	head, e2 := seg.Head(segment)
	if e != api.OK || e2 != api.OK {
		t.Fatalf("a segment of %v: error %d, %d", rows, e, e2)
	}
	return shelf{append(s.segments, segment), append(s.heads, head)}
}

// fault: the first one is told.
func (w *ward) fault(format string, args ...any) {
	if w.wrong == "" {
		w.wrong = fmt.Sprintf(format, args...)
	}
}

// spoil what was answered ahead.
func (w *ward) spoil() {
	for _, spoil := range w.spoils {
		spoil()
	}
	w.spoils = nil
}

// lent: a list that is changed at the next call of anything.
func lent[T any](w *ward, list []T, bad T) []T {
	list = append(make([]T, 0, len(list)+2), list...)
	w.spoils = append(w.spoils, func() { fill(list, bad) })
	return list
}

// fill a list, spare room included.
func fill[T any](list []T, with T) {
	list = list[:cap(list)]
	for i := range list {
		list[i] = with
	}
}

// hear of a call that can't be refused.
func (w *ward) hear(what string) {
	if w.refused {
		w.fault("%s behind a refusal", what)
	}
	w.spoil()
}

// call: OK, or the refusal of this one.
func (w *ward) call(what string) api.Errno {
	w.hear(what)
	w.calls++
	if w.calls == w.refuse {
		w.refused = true
		return w.code
	}
	return api.OK
}

func (w *ward) Tables() []api.Table {
	w.hear("Tables")
	w.told++
	tables := lent(w, w.tables, api.Table{Name: "spoiled"})
	for i := range tables {
		tables[i].Columns = lent(w, tables[i].Columns, api.Column{Name: "spoiled", Kind: 9})
	}
	return tables
}

func (w *ward) Count(table string) int {
	w.hear("Count")
	w.counted = append(w.counted, table)
	return len(w.shelves[table].segments)
}

// askFor a segment; false: there is none.
func (w *ward) askFor(a ask) (bool, api.Errno) {
	w.asked = append(w.asked, a)
	e := w.call(a.String())
	there := a.k >= 0 && a.k < len(w.shelves[a.table].segments)
	if !there {
		w.fault("%s, which is not there", a)
	}
	return there && e == api.OK, e
}

func (w *ward) Head(table string, k int) (api.Head, api.Errno) {
	there, e := w.askFor(ask{table: table, k: k})
	if !there {
		return api.Head{Rows: 7}, e
	}
	h := w.shelves[table].heads[k]
	bad := text("spoiled")
	return api.Head{Rows: h.Rows, Low: lent(w, h.Low, bad), High: lent(w, h.High, bad), Nulls: lent(w, h.Nulls, -9)}, api.OK
}

func (w *ward) Read(table string, k int) (string, api.Errno) {
	there, e := w.askFor(ask{table: table, k: k, read: true})
	if !there {
		return "something", e
	}
	return w.shelves[table].segments[k], api.OK
}

func (w *ward) hold(rows int) {
	w.held += rows
	if w.held > w.budget || w.held < 0 {
		w.fault("%d rows are held", w.held)
	}
}

// copied: the row as it is; the one that was handed in is spoiled.
func (w *ward) copied(what string, row []api.Value) []api.Value {
	kept := slices.Clone(row)
	for _, v := range row {
		if v != cell.Clean(v) {
			w.fault("%s of %v, which is not clean", what, row)
		}
	}
	fill(row, text("spoiled"))
	return kept
}

func (w *ward) Take(row []api.Value) api.Errno {
	if e := w.call("Take"); e != api.OK {
		return e
	}
	w.out = append(w.out, w.copied("Take", row))
	return api.OK
}

// New: the numbers fall, from 3 to below 0.
func (w *ward) New() (int, api.Errno) {
	if e := w.call("New"); e != api.OK {
		return 3, e
	}
	w.news++
	number := 4 - w.news
	w.runs[number] = nil
	return number, api.OK
}

func (w *ward) isThere(what string, run int) {
	if _, there := w.runs[run]; !there {
		w.fault("%s of run %d, which is not there", what, run)
	}
}

func (w *ward) Put(run int, row []api.Value) api.Errno {
	if e := w.call("Put"); e != api.OK {
		return e
	}
	w.isThere("Put", run)
	w.puts++
	w.runs[run] = append(w.runs[run], w.copied("Put", row))
	w.hold(-1)
	return api.OK
}

func (w *ward) Next(run int) ([]api.Value, bool, api.Errno) {
	odd := []api.Value{text("none")}
	if e := w.call("Next"); e != api.OK {
		return odd, true, e
	}
	w.isThere("Next", run)
	if len(w.runs[run]) == 0 {
		return odd, false, api.OK
	}
	row := w.runs[run][0]
	w.runs[run] = w.runs[run][1:]
	w.hold(1)
	return lent(w, row, text("spoiled")), true, api.OK
}

func (w *ward) Drop(run int) api.Errno {
	w.spoil()
	w.isThere("Drop", run)
	delete(w.runs, run)
	w.drops++
	if w.refused {
		w.dropped = append(w.dropped, run)
		return w.dropCode
	}
	if w.drops == w.refuseDrop {
		w.refused = true
		return w.code
	}
	return api.OK
}

func (w *ward) Let(rows int) {
	w.hear("Let")
	if rows == 0 {
		w.fault("Let of 0")
	}
	w.hold(-rows)
}

// run a plan in this ward, and check what holds at the end of every call.
func (w *ward) run(t *testing.T, p api.Plan, batch int) api.Errno {
	t.Helper()
	e := run.Run(p, w, batch, w.budget, w, w)
	what := fmt.Sprintf("%s, batch %d, budget %d, refused at %d", printed(p), batch, w.budget, w.refuse)
	w.check(t, what)
	if w.refused && e != w.code {
		t.Errorf("%s: %d, not %d", what, e, w.code)
	}
	if e == api.OK && w.held != 0 {
		t.Errorf("%s: %d rows are held at the end", what, w.held)
	}
	if w.told != 1 {
		t.Errorf("%s: Tables was asked %d times", what, w.told)
	}
	return e
}

func (w *ward) check(t *testing.T, what string) {
	t.Helper()
	if w.wrong != "" {
		t.Errorf("%s: %s", what, w.wrong)
	}
	if len(w.runs) != 0 {
		t.Errorf("%s: not dropped: %v", what, slices.Sorted(maps.Keys(w.runs)))
	}
	if !slices.IsSorted(w.dropped) {
		t.Errorf("%s: dropped in the order %v", what, w.dropped)
	}
}
