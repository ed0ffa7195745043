package delta

import (
	"slices"

	"tallyhouse/api"
	"tallyhouse/cell"
	"tallyhouse/plan"
)

// The most that may be: rows of a table, changes at a time, and how often a row
// comes or goes in one change.
const (
	mostRows    = 1 << 20
	mostChanges = 1 << 20
	mostWeight  = 1 << 40
)

// table of a view.
type table struct {
	columns []api.Column
	rows    bag
	count   int64 // of its rows
}

func newTable(t api.Table) *table {
	return &table{columns: slices.Clone(t.Columns), rows: counted(t.Rows), count: int64(len(t.Rows))}
}

// change it by what comes and goes, which has been found to be possible.
func (t *table) change(sum bag) {
	t.rows.addAll(sum)
	t.count += sum.total()
}

// refused: why these changes may not be, whatever rows the table has.
func (t *table) refused(l []api.Change) api.Errno {
	if slices.ContainsFunc(l, func(c api.Change) bool { return !plan.Fits(c.Row, t.columns) }) {
		return api.ErrArg
	}
	if slices.ContainsFunc(l, isTooHeavy) {
		return api.ErrLarge
	}
	return api.OK
}

func isTooHeavy(c api.Change) bool { return c.Weight < -mostWeight || c.Weight > mostWeight }

// lacks: has it a row less often than this takes it away?
func (t *table) lacks(sum bag) bool {
	for key, times := range sum {
		if t.rows[key]+times < 0 {
			return true
		}
	}
	return false
}

// refused: why these deltas may not be, whatever rows the tables have.
func (v *View) refused(l []api.Delta) api.Errno {
	count := 0
	for _, d := range l {
		t, there := v.tables[d.Table]
		if !there {
			return api.ErrAbsent
		}
		if e := t.refused(d.Changes); e != api.OK {
			return e
		}
		count += len(d.Changes)
	}
	if count > mostChanges {
		return api.ErrLarge
	}
	return api.OK
}

// addedUp: all that changes, by table and row.
func addedUp(l []api.Delta) map[string]bag {
	sums := map[string]bag{}
	for _, d := range l {
		if sums[d.Table] == nil {
			sums[d.Table] = bag{}
		}
		for _, c := range d.Changes {
			sums[d.Table].add(cell.Key(c.Row), c.Weight)
		}
	}
	return sums
}

// overdone: why the tables can't change by this.
func (v *View) overdone(sums map[string]bag) api.Errno {
	for name, sum := range sums {
		if v.tables[name].lacks(sum) {
			return api.ErrArg
		}
	}
	// A table may have been too large from the beginning.
	for name, t := range v.tables {
		if t.count+sums[name].total() > mostRows {
			return api.ErrLarge
		}
	}
	return api.OK
}
