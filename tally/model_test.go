package tally_test

import (
	"maps"
	"slices"
	"strings"

	"tallyhouse/api"
	"tallyhouse/cell"
	"tallyhouse/cost"
	"tallyhouse/plan"
)

// command, with what stands in it.
type command struct {
	word    string
	name    string
	columns []api.Column
	rows    [][]api.Value
	plan    string // a text
}

// line of a command.
func (c command) line() string {
	words := []string{c.word}
	switch c.word {
	case "make":
		var columns []string
		for _, column := range c.columns {
			columns = append(columns, "("+column.Name+" "+[]string{"", "int", "text"}[column.Kind]+")")
		}
		words = append(words, c.name, "("+strings.Join(columns, " ")+")")
	case "add", "take":
		words = append(words, c.name, listed(c.rows))
	case "view":
		words = append(words, c.name, c.plan)
	case "ask", "explain":
		words = append(words, c.plan)
	default:
		words = append(words, c.name)
	}
	return "(" + strings.Join(words, " ") + ")"
}

// model of a machine, by the document's words: tables with their rows as they
// came, and of each view nothing but its plan.
type model struct {
	tables map[string]api.Table
	views  map[string]modelView
}

type modelView struct {
	text    string
	written api.Plan
	plan    api.Plan
}

func newModel() *model {
	return &model{tables: map[string]api.Table{}, views: map[string]modelView{}}
}

// all tables, by name rising.
func (m *model) all() []api.Table {
	var all []api.Table
	for _, name := range slices.Sorted(maps.Keys(m.tables)) {
		all = append(all, m.tables[name])
	}
	return all
}

func (m *model) isThere(name string) bool {
	_, table := m.tables[name]
	_, view := m.views[name]
	return table || view
}

// replaced: a plan whose Scans of views are the views' plans.
func (m *model) replaced(p api.Plan) api.Plan {
	if v, is := m.views[p.Table]; is && p.Op == api.Scan {
		return v.plan
	}
	args := slices.Clone(p.Args)
	for i := range args {
		args[i] = m.replaced(args[i])
	}
	p.Args = args
	return p
}

// names of which a plan speaks.
func names(p api.Plan) []string {
	var all []string
	if p.Op == api.Scan {
		all = append(all, p.Table)
	}
	for _, arg := range p.Args {
		all = append(all, names(arg)...)
	}
	return all
}

// span of a plan over tables, as the document says it; from 2^31 on it is not
// told apart.
func (m *model) span(p api.Plan) int {
	span := 1
	if p.Op == api.Scan {
		span = max(1, len(m.tables[p.Table].Rows))
	}
	for i, arg := range p.Args {
		more := m.span(arg)
		switch {
		case i > 0 && (p.Op == api.Join || p.Op == api.LeftJoin):
			span *= more
		case i > 0 && p.Op == api.Union:
			span += more
		default:
			span = max(span, more)
		}
		span = min(span, 1<<31)
	}
	return span
}

// do a command: what is told; of a merge and an explain only the error.
func (m *model) do(c command) api.Result {
	switch c.word {
	case "make", "view":
		return m.found(c)
	case "add", "take":
		return m.change(c)
	case "drop":
		return m.drop(c)
	case "show":
		return m.show(c)
	case "merge":
		if _, is := m.tables[c.name]; !is {
			return api.Result{Err: api.ErrAbsent}
		}
		return api.Result{}
	}
	p, e := plan.Parse(c.plan)
	if e == api.OK {
		_, e = plan.Check(m.replaced(p), m.all())
	}
	if e != api.OK || c.word == "explain" {
		return api.Result{Err: e}
	}
	return m.answer(m.replaced(p))
}

func (m *model) answer(p api.Plan) api.Result {
	kinds, _ := plan.Check(p, m.all())
	rows, e := plan.Answer(p, m.all())
	return api.Result{Err: e, Count: len(rows), Kinds: kinds, Rows: rows}
}

func (m *model) found(c command) api.Result {
	p, e := api.Plan{}, api.OK
	if c.word == "view" {
		p, e = plan.Parse(c.plan)
	} else {
		e = plan.Good([]api.Table{{Name: "t", Columns: c.columns}})
	}
	switch {
	case e != api.OK:
		return api.Result{Err: e}
	case m.isThere(c.name):
		return api.Result{Err: api.ErrThere}
	case len(m.tables)+len(m.views) == api.MaxTables:
		return api.Result{Err: api.ErrLarge}
	case c.word == "make":
		m.tables[c.name] = api.Table{Name: c.name, Columns: c.columns}
		return api.Result{}
	}
	if _, e := plan.Check(m.replaced(p), m.all()); e != api.OK {
		return api.Result{Err: e}
	}
	v := modelView{c.plan, p, m.replaced(p)}
	m.views[c.name] = v
	r := m.answer(v.plan)
	r.Rows = nil
	return r
}

func (m *model) change(c command) api.Result {
	t, is := m.tables[c.name]
	if !is {
		return api.Result{Err: api.ErrAbsent}
	}
	if plan.Good([]api.Table{{Name: "t", Columns: t.Columns, Rows: c.rows}}) != api.OK {
		return api.Result{Err: api.ErrArg}
	}
	rows := slices.Clone(t.Rows)
	for _, row := range c.rows {
		if c.word == "add" {
			rows = append(rows, row)
			continue
		}
		at := slices.IndexFunc(rows, func(other []api.Value) bool { return cell.Rows(row, other) == 0 })
		if at < 0 {
			return api.Result{Err: api.ErrArg}
		}
		rows = slices.Delete(rows, at, at+1)
	}
	t.Rows = rows
	m.tables[c.name] = t
	return api.Result{Count: len(c.rows)}
}

func (m *model) drop(c command) api.Result {
	if !m.isThere(c.name) {
		return api.Result{Err: api.ErrAbsent}
	}
	for _, v := range m.views {
		if slices.Contains(names(v.written), c.name) {
			return api.Result{Err: api.ErrUsed}
		}
	}
	delete(m.tables, c.name)
	delete(m.views, c.name)
	return api.Result{}
}

func (m *model) show(c command) api.Result {
	if !m.isThere(c.name) {
		return api.Result{Err: api.ErrAbsent}
	}
	return m.answer(m.replaced(api.Plan{Op: api.Scan, Table: c.name}))
}

// wrong with what explain tells of a plan that is asked so; "": nothing.
func (m *model) wrong(asked string, got api.Result) string {
	p, _ := plan.Parse(asked)
	p = m.replaced(p)
	q, e := plan.Parse(got.Text)
	tables := m.all()
	stats, _ := cost.Stats(tables)
	before, _ := cost.Cost(p, tables, stats)
	after, _ := cost.Cost(q, tables, stats)
	best, _ := cost.Best(p, tables, stats)
	least, _ := cost.Cost(best, tables, stats)
	text, _ := plan.Print(q)
	switch {
	case got.Err != api.OK || e != api.OK || text != got.Text:
		return "it is no plan's text"
	case !sameResult(m.answer(p), m.answer(q)):
		return "another answer"
	case got.Count != after:
		return "it costs something else"
	case after > before || after > least:
		return "it costs too much"
	case slices.ContainsFunc(names(q), func(name string) bool { return m.tables[name].Name != name }):
		return "it scans no tables"
	case got.Rows != nil || got.Kinds != nil:
		return "it tells too much"
	}
	return ""
}
