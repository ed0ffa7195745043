package run

import (
	"tallyhouse/api"
	"tallyhouse/plan"
)

// maker of flows for plans that have been checked.
type maker struct {
	source   api.Source
	tables   []api.Table
	segments map[string]int // how many each table has
	size     int            // the most rows of a batch
}

func newMaker(source api.Source, tables []api.Table, size int) maker {
	m := maker{source: source, tables: tables, segments: map[string]int{}, size: size}
	for _, table := range tables {
		m.segments[table.Name] = source.Count(table.Name)
	}
	return m
}

// flow of the rows of p. Over it stand Filters alone that have these
// conditions.
func (m maker) flow(p api.Plan, over []api.Expr) flow {
	switch p.Op {
	case api.Scan:
		return m.scan(p, over)
	case api.Filter:
		return sieve{from: m.flow(p.Args[0], append(over, p.Exprs[0])), stay: ifTrue(p.Exprs[0])}
	case api.Project:
		return project{from: m.flow(p.Args[0], nil), exprs: p.Exprs}
	case api.Join, api.LeftJoin:
		return m.join(p)
	case api.Distinct:
		return sieve{from: m.flow(p.Args[0], nil), stay: once()}
	case api.Minus:
		return &minus{from: m.flow(p.Args[0], nil), less: m.rows(p.Args[1])}
	case api.Union, api.Empty:
		return m.union(p)
	}
	return &gathering{from: m.rows(p.Args[0]), by: plan.Gathering(p), store: m.store(p)}
}

func (m maker) rows(p api.Plan) rows { return rows{from: m.flow(p, nil)} }

func (m maker) kinds(p api.Plan) []int {
	kinds, _ := plan.Check(p, m.tables)
	return kinds
}

func (m maker) store(p api.Plan) store { return store{kinds: m.kinds(p), size: m.size} }

func (m maker) scan(p api.Plan, over []api.Expr) *scan {
	return &scan{
		source:     m.source,
		table:      p.Table,
		kinds:      m.kinds(p),
		conditions: over,
		segments:   m.segments[p.Table],
		size:       m.size,
	}
}

// union of the Args; an Empty is one of none.
func (m maker) union(p api.Plan) *union {
	var from []flow
	for _, arg := range p.Args {
		from = append(from, m.flow(arg, nil))
	}
	return &union{from: from}
}

// join of two Args: of the one that can have fewer rows they are held.
func (m maker) join(p api.Plan) *join {
	held, passing := 1, 0
	if m.span(p.Args[0]) < m.span(p.Args[1]) {
		held, passing = 0, 1
	}
	first, second := len(m.kinds(p.Args[0])), len(m.kinds(p.Args[1]))
	return &join{
		held:    m.rows(p.Args[held]),
		passing: m.rows(p.Args[passing]),
		pairing: plan.NewPairing(p, first, second, held),
		store:   m.store(p),
	}
}

// span: how many rows p may have, if its tables' segments are full.
func (m maker) span(p api.Plan) int {
	args := make([]int, len(p.Args))
	for i, arg := range p.Args {
		args[i] = m.span(arg)
	}
	return max(plan.Span(p.Op, args), m.segments[p.Table]*api.MaxRows)
}
