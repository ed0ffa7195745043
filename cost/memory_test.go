package cost_test

import (
	"slices"
	"testing"

	"tallyhouse/api"
	"tallyhouse/cost"
)

// spoil all that a list holds, spare room included.
func spoil[T any](list []T, with T) {
	list = list[:cap(list)]
	for i := range list {
		list[i] = with
	}
}

// roomy: as the list, with spare room that a careless append would fill.
func roomy[T any](list []T) []T { return append(make([]T, 0, len(list)+3), list...) }

func roomyExpr(e api.Expr) api.Expr {
	e.Args = roomy(e.Args)
	for i, part := range e.Args {
		e.Args[i] = roomyExpr(part)
	}
	return e
}

func roomyPlan(p api.Plan) api.Plan {
	p.Exprs, p.Cols, p.Keys, p.Aggs, p.Args = roomy(p.Exprs), roomy(p.Cols), roomy(p.Keys), roomy(p.Aggs), roomy(p.Args)
	for i, e := range p.Exprs {
		p.Exprs[i] = roomyExpr(e)
	}
	for i, arg := range p.Args {
		p.Args[i] = roomyPlan(arg)
	}
	return p
}

func roomyTables(tables []api.Table) []api.Table {
	tables = roomy(tables)
	for i := range tables {
		tables[i].Columns, tables[i].Rows = roomy(tables[i].Columns), roomy(tables[i].Rows)
		for k, row := range tables[i].Rows {
			tables[i].Rows[k] = roomy(row)
		}
	}
	return tables
}

// shownExpr, shownPlan, shownTables: with spare room shown, in new memory.
func shownExpr(e api.Expr) api.Expr {
	e.Args = slices.Clone(e.Args[:cap(e.Args)])
	for i, part := range e.Args {
		e.Args[i] = shownExpr(part)
	}
	return e
}

func shown[T any](list []T) []T { return slices.Clone(list[:cap(list)]) }

func shownPlan(p api.Plan) api.Plan {
	p.Exprs, p.Cols, p.Keys, p.Aggs, p.Args = shown(p.Exprs), shown(p.Cols), shown(p.Keys), shown(p.Aggs), shown(p.Args)
	for i, e := range p.Exprs {
		p.Exprs[i] = shownExpr(e)
	}
	for i, arg := range p.Args {
		p.Args[i] = shownPlan(arg)
	}
	return p
}

func shownTables(tables []api.Table) []api.Table {
	tables = shown(tables)
	for i := range tables {
		tables[i].Columns, tables[i].Rows = shown(tables[i].Columns), shown(tables[i].Rows)
		for k, row := range tables[i].Rows {
			tables[i].Rows[k] = shown(row)
		}
	}
	return tables
}

func sameTables(a, b []api.Table) bool {
	return slices.EqualFunc(a, b, func(x, y api.Table) bool {
		return x.Name == y.Name && slices.Equal(x.Columns, y.Columns) && sameRows(x.Rows, y.Rows)
	})
}

// spoilPlan: all lists in it.
func spoilPlan(p api.Plan) {
	for _, arg := range p.Args {
		spoilPlan(arg)
	}
	for _, e := range p.Exprs {
		spoil(e.Args, api.Expr{Op: -9})
	}
	spoil(p.Exprs, api.Expr{Op: -9})
	spoil(p.Cols, -9)
	spoil(p.Keys, api.Key{Col: -9})
	spoil(p.Aggs, api.Agg{Fn: -9})
	spoil(p.Args, api.Plan{Op: -9})
}

// lists in a plan, by where they begin, as often as they stand there.
func lists(p api.Plan, exprs map[*api.Expr]int, plans map[*api.Plan]int, numbers map[*int]int, keys map[*api.Key]int, aggs map[*api.Agg]int) {
	mark(p.Cols, numbers)
	mark(p.Keys, keys)
	mark(p.Aggs, aggs)
	mark(p.Exprs, exprs)
	mark(p.Args, plans)
	var within func(list []api.Expr)
	within = func(list []api.Expr) {
		for _, e := range list {
			mark(e.Args, exprs)
			within(e.Args)
		}
	}
	within(p.Exprs)
	for _, arg := range p.Args {
		lists(arg, exprs, plans, numbers, keys, aggs)
	}
}

func mark[T any](list []T, seen map[*T]int) {
	list = list[:cap(list)]
	for i := range list {
		seen[&list[i]]++
	}
}

func twice[T any](seen map[*T]int) bool {
	for _, times := range seen {
		if times > 1 {
			return true
		}
	}
	return false
}

// sharesNothing: do no two lists of all these plans share memory?
func sharesNothing(plans ...api.Plan) bool {
	exprs, args, numbers, keys, aggs := map[*api.Expr]int{}, map[*api.Plan]int{}, map[*int]int{}, map[*api.Key]int{}, map[*api.Agg]int{}
	for _, p := range plans {
		lists(p, exprs, args, numbers, keys, aggs)
	}
	return !twice(exprs) && !twice(args) && !twice(numbers) && !twice(keys) && !twice(aggs)
}

func roomyStats(stats []api.Stat) []api.Stat {
	stats = roomy(stats)
	for i := range stats {
		stats[i].Each, stats[i].Nulls = roomy(stats[i].Each), roomy(stats[i].Nulls)
	}
	return stats
}

func shownStats(stats []api.Stat) []api.Stat {
	stats = shown(stats)
	for i := range stats {
		stats[i].Each, stats[i].Nulls = shown(stats[i].Each), shown(stats[i].Nulls)
	}
	return stats
}

func TestBestIsNewMemory(t *testing.T) {
	for seed := range int64(300) {
		m := made(seed, 3)
		p := m.small(4)
		if seed%2 == 0 {
			p = m.spread(2 + m.Intn(3))
		}
		p, tables, stats := roomyPlan(p), roomyTables(m.tables), roomyStats(m.stats())
		planBefore, tablesBefore, statsBefore := shownPlan(p), shownTables(tables), shownStats(stats)
		made, _ := best(t, p, tables, stats)
		if !sharesNothing(p, made) {
			t.Fatalf("of %s: lists share memory", printed(p))
		}
		spoilPlan(made)
		if !same(shownPlan(p), planBefore) || !sameTables(shownTables(tables), tablesBefore) || !slices.EqualFunc(shownStats(stats), statsBefore, sameStat) {
			t.Fatalf("what was handed in with %s has changed", printed(p))
		}
	}
}

// TestPlansThatShareTheirParts: one list may stand in a plan more than once.
func TestPlansThatShareTheirParts(t *testing.T) {
	e := of(api.And, of(api.Eq, col(0), col(1)), col(0))
	x := filter(num(1), scan("u"))
	y := join(api.Join, of(api.And, e, e), x, x)
	z := join(api.Join, e, y, y)
	for _, p := range []api.Plan{y, z, union(z, z)} {
		if made, e := cost.Best(p, someTables(), nil); e != api.OK || !sharesNothing(made) {
			t.Errorf("%s: error %d, or lists share memory", printed(p), e)
		}
	}
}

func TestStatsAreNewMemory(t *testing.T) {
	tables := roomyTables(someTables())
	before := shownTables(tables)
	stats, _ := cost.Stats(tables)
	again, _ := cost.Stats(tables)
	numbers, places := map[*int]int{}, map[*api.Stat]int{}
	for _, list := range [][]api.Stat{stats, again} {
		mark(list, places)
		for _, stat := range list {
			mark(stat.Each, numbers)
			mark(stat.Nulls, numbers)
		}
	}
	if twice(numbers) || twice(places) {
		t.Error("lists share memory")
	}
	want := shownStats(again)
	for _, stat := range stats {
		spoil(stat.Each, -9)
		spoil(stat.Nulls, -9)
	}
	spoil(stats, api.Stat{Table: "spoilt"})
	if !sameTables(shownTables(tables), before) || !slices.EqualFunc(shownStats(again), want, sameStat) {
		t.Error("something has changed")
	}
}

func TestNothingIsKept(t *testing.T) {
	p, tables, stats := parsed(t, "(join (eq #0 #2) (join 1 (scan u) (scan u)) (scan t))"), someTables(), someStats()
	first, _ := cost.Best(p, tables, stats)
	before := printed(first)
	spoilPlan(p)
	for _, table := range tables {
		spoil(table.Columns, api.Column{Name: "spoilt"})
	}
	spoil(stats, api.Stat{})
	if printed(first) != before {
		t.Errorf("it became %s", printed(first))
	}
}
