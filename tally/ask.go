package tally

import (
	"slices"

	"tallyhouse/api"
	"tallyhouse/cost"
	"tallyhouse/delta"
	"tallyhouse/plan"
	"tallyhouse/run"
)

// view of a machine.
type view struct {
	written api.Plan
	plan    api.Plan // the same over tables alone
	kept    *delta.View
}

// scans: does a plan speak of the table or view of this name?
func scans(p api.Plan, name string) bool {
	return p.Op == api.Scan && p.Table == name ||
		slices.ContainsFunc(p.Args, func(arg api.Plan) bool { return scans(arg, name) })
}

// overTables: a plan with the views' own in place of their Scans.
func (m *Machine) overTables(p api.Plan) api.Plan {
	if p.Op == api.Scan && m.isView(p.Table) {
		return m.views[p.Table].plan
	}
	args := make([]api.Plan, len(p.Args))
	for i, arg := range p.Args {
		args[i] = m.overTables(arg)
	}
	p.Args = args
	return p
}

// question: a plan as it was written, over tables alone, and its kinds.
func (m *Machine) question(written api.Plan) (api.Plan, []int) {
	p := m.overTables(written)
	kinds, why := plan.Check(p, m.tables.Tables())
	refuse(why != api.OK, why)
	return p, kinds
}

// cheap plan with the meaning of p, and what it costs.
func (m *Machine) cheap(p api.Plan) (api.Plan, int) {
	tables := plan.Scanned(p, m.tables.Tables())
	stats := m.tables.stats(tables)
	// A plan that has been checked is not refused.
	best, _ := cost.Best(p, tables, stats)
	costs, _ := cost.Cost(best, tables, stats)
	return best, costs
}

// answer of a plan over tables: rows, rising.
func (m *Machine) answer(p api.Plan) [][]api.Value {
	r := newRoom()
	why := run.Run(p, m.tables, m.batch, m.budget, r, r)
	refuse(why != api.OK, why)
	return r.answer
}

func shown(kinds []int, rows [][]api.Value) api.Result {
	return api.Result{Count: len(rows), Kinds: kinds, Rows: rows}
}

func (m *Machine) makeView(name string, written api.Plan) api.Result {
	m.needFree(name)
	p, kinds := m.question(written)
	kept, why := delta.New(p, m.tables.whole(plan.Scanned(p, m.tables.Tables())))
	refuse(why != api.OK, why)
	m.views[name] = &view{written: written, plan: p, kept: kept}
	return api.Result{Count: len(kept.Rows()), Kinds: kinds}
}

func (m *Machine) show(name string) api.Result {
	refuse(!m.isTable(name) && !m.isView(name), api.ErrAbsent)
	p, kinds := m.question(api.Plan{Op: api.Scan, Table: name})
	if m.isView(name) {
		return shown(kinds, m.views[name].kept.Rows())
	}
	return shown(kinds, m.answer(p))
}

func (m *Machine) ask(written api.Plan) api.Result {
	p, kinds := m.question(written)
	best, _ := m.cheap(p)
	return shown(kinds, m.answer(best))
}

func (m *Machine) explain(written api.Plan) api.Result {
	p, _ := m.question(written)
	best, costs := m.cheap(p)
	text, _ := plan.Print(best)
	return api.Result{Count: costs, Text: text}
}
