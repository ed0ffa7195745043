package tally

import (
	"slices"

	"tallyhouse/api"
	"tallyhouse/plan"
)

// isTable: is there one of this name?
func (m *Machine) isTable(name string) bool { return m.tables[name] != nil }

// isView: is there one of this name?
func (m *Machine) isView(name string) bool { return m.views[name] != nil }

// needFree name for a table or view, and room for one more.
func (m *Machine) needFree(name string) {
	refuse(m.isTable(name) || m.isView(name), api.ErrThere)
	refuse(len(m.tables)+len(m.views) >= api.MaxTables, api.ErrLarge)
}

func (m *Machine) makeTable(name string, columns []api.Column) api.Result {
	t := &table{name: name, columns: columns}
	refuse(plan.Good([]api.Table{t.shape()}) != api.OK, api.ErrArg)
	m.needFree(name)
	m.tables[name] = t
	return api.Result{}
}

// tableFor rows that come or go: the one of this name, if they fit it.
func (m *Machine) tableFor(name string, rows [][]api.Value) *table {
	refuse(!m.isTable(name), api.ErrAbsent)
	t := m.tables[name]
	refuse(slices.ContainsFunc(rows, func(row []api.Value) bool { return !plan.Fits(row, t.columns) }), api.ErrArg)
	return t
}

func (m *Machine) add(name string, rows [][]api.Value) api.Result {
	t := m.tableFor(name, rows)
	refuse(t.count()+len(rows) > mostRows, api.ErrLarge)
	t.add(rows, m.segment)
	m.tellViews(name, rows, 1)
	return api.Result{Count: len(rows)}
}

func (m *Machine) take(name string, rows [][]api.Value) api.Result {
	t := m.tableFor(name, rows)
	left, there := t.without(rows)
	refuse(!there, api.ErrArg)
	t.become(left)
	m.tellViews(name, rows, -1)
	return api.Result{Count: len(rows)}
}

// tellViews of a table that each of these rows has come or gone there so many
// times.
func (m *Machine) tellViews(name string, rows [][]api.Value, times int64) {
	changes := make([]api.Change, len(rows))
	for i, row := range rows {
		changes[i] = api.Change{Row: row, Weight: times}
	}
	for _, v := range m.views {
		if scans(v.plan, name) {
			// What the table has taken its views take.
			v.kept.Apply([]api.Delta{{Table: name, Changes: changes}})
		}
	}
}

func (m *Machine) drop(name string) api.Result {
	refuse(!m.isTable(name) && !m.isView(name), api.ErrAbsent)
	for _, v := range m.views {
		refuse(scans(v.written, name), api.ErrUsed)
	}
	delete(m.tables, name)
	delete(m.views, name)
	return api.Result{}
}

func (m *Machine) merge(name string) api.Result {
	refuse(!m.isTable(name), api.ErrAbsent)
	t := m.tables[name]
	t.segments = t.laid(t.rows(t.segments), m.segment)
	return api.Result{Count: len(t.segments)}
}
