package rule_test

import (
	"slices"
	"testing"

	"tallyhouse/api"
	"tallyhouse/rule"
)

// spoil all that a list holds, spare room included.
func spoil[T any](list []T, with T) {
	list = list[:cap(list)]
	for i := range list {
		list[i] = with
	}
}

// roomy: as the list, with spare room that a careless append would fill.
func roomy[T any](list []T) []T { return append(make([]T, 0, len(list)+3), list...) }

func roomyExpr(e api.Expr) api.Expr {
	e.Args = roomy(e.Args)
	for i, part := range e.Args {
		e.Args[i] = roomyExpr(part)
	}
	return e
}

func roomyPlan(p api.Plan) api.Plan {
	p.Exprs, p.Cols, p.Keys, p.Aggs, p.Args = roomy(p.Exprs), roomy(p.Cols), roomy(p.Keys), roomy(p.Aggs), roomy(p.Args)
	for i, e := range p.Exprs {
		p.Exprs[i] = roomyExpr(e)
	}
	for i, arg := range p.Args {
		p.Args[i] = roomyPlan(arg)
	}
	return p
}

func roomyTables(tables []api.Table) []api.Table {
	tables = roomy(tables)
	for i := range tables {
		tables[i].Columns, tables[i].Rows = roomy(tables[i].Columns), roomy(tables[i].Rows)
		for k, row := range tables[i].Rows {
			tables[i].Rows[k] = roomy(row)
		}
	}
	return tables
}

// shownExpr, shownPlan, shownTables: with spare room shown, in new memory.
func shownExpr(e api.Expr) api.Expr {
	e.Args = slices.Clone(e.Args[:cap(e.Args)])
	for i, part := range e.Args {
		e.Args[i] = shownExpr(part)
	}
	return e
}

func shown[T any](list []T) []T { return slices.Clone(list[:cap(list)]) }

func shownPlan(p api.Plan) api.Plan {
	p.Exprs, p.Cols, p.Keys, p.Aggs, p.Args = shown(p.Exprs), shown(p.Cols), shown(p.Keys), shown(p.Aggs), shown(p.Args)
	for i, e := range p.Exprs {
		p.Exprs[i] = shownExpr(e)
	}
	for i, arg := range p.Args {
		p.Args[i] = shownPlan(arg)
	}
	return p
}

func shownTables(tables []api.Table) []api.Table {
	tables = shown(tables)
	for i := range tables {
		tables[i].Columns, tables[i].Rows = shown(tables[i].Columns), shown(tables[i].Rows)
		for k, row := range tables[i].Rows {
			tables[i].Rows[k] = shown(row)
		}
	}
	return tables
}

func sameTables(a, b []api.Table) bool {
	return slices.EqualFunc(a, b, func(x, y api.Table) bool {
		return x.Name == y.Name && slices.Equal(x.Columns, y.Columns) && sameRows(x.Rows, y.Rows)
	})
}

// spoilPlan: all lists in it.
func spoilPlan(p api.Plan) {
	for _, arg := range p.Args {
		spoilPlan(arg)
	}
	for _, e := range p.Exprs {
		spoil(e.Args, api.Expr{Op: -9})
	}
	spoil(p.Exprs, api.Expr{Op: -9})
	spoil(p.Cols, -9)
	spoil(p.Keys, api.Key{Col: -9})
	spoil(p.Aggs, api.Agg{Fn: -9})
	spoil(p.Args, api.Plan{Op: -9})
}

// lists in a plan, by where they begin, as often as they stand there.
func lists(p api.Plan, exprs map[*api.Expr]int, plans map[*api.Plan]int, numbers map[*int]int, keys map[*api.Key]int, aggs map[*api.Agg]int) {
	mark(p.Cols, numbers)
	mark(p.Keys, keys)
	mark(p.Aggs, aggs)
	mark(p.Exprs, exprs)
	mark(p.Args, plans)
	var within func(list []api.Expr)
	within = func(list []api.Expr) {
		for _, e := range list {
			mark(e.Args, exprs)
			within(e.Args)
		}
	}
	within(p.Exprs)
	for _, arg := range p.Args {
		lists(arg, exprs, plans, numbers, keys, aggs)
	}
}

func mark[T any](list []T, seen map[*T]int) {
	list = list[:cap(list)]
	for i := range list {
		seen[&list[i]]++
	}
}

func twice[T any](seen map[*T]int) bool {
	for _, times := range seen {
		if times > 1 {
			return true
		}
	}
	return false
}

// sharesNothing: do no two lists of all these plans share memory?
func sharesNothing(plans ...api.Plan) bool {
	exprs, args, numbers, keys, aggs := map[*api.Expr]int{}, map[*api.Plan]int{}, map[*int]int{}, map[*api.Key]int{}, map[*api.Agg]int{}
	for _, p := range plans {
		lists(p, exprs, args, numbers, keys, aggs)
	}
	return !twice(exprs) && !twice(args) && !twice(numbers) && !twice(keys) && !twice(aggs)
}

func TestWhatIsMadeIsNewMemory(t *testing.T) {
	each(21, 33*30, func(m maker, _ int, p api.Plan) {
		p, tables := roomyPlan(p), roomyTables(m.tables)
		planBefore, tablesBefore := shownPlan(p), shownTables(tables)
		for number := 1; number <= 33; number++ {
			places, _ := rule.Places(number, p, tables)
			for _, at := range places {
				at := roomy(at)
				atBefore := shown(at)
				made, _ := rule.Apply(number, p, at, tables)
				if !sharesNothing(p, made) {
					t.Fatalf("rule %d at %v of %s: lists share memory", number, at, printed(p))
				}
				if !slices.Equal(shown(at), atBefore) {
					t.Fatalf("rule %d at %v: the place has changed", number, at)
				}
				spoilPlan(made)
			}
			seen := map[*int]int{}
			for _, at := range places {
				mark(at, seen)
				spoil(at, -9)
			}
			if twice(seen) {
				t.Fatalf("the places of rule %d in %s share memory", number, printed(p))
			}
		}
		if !same(shownPlan(p), planBefore) || !sameTables(shownTables(tables), tablesBefore) {
			t.Fatalf("%s has changed", printed(p))
		}
	})
}

// TestPlansThatShareTheirParts: one list may stand in a plan more than once.
func TestPlansThatShareTheirParts(t *testing.T) {
	e := of(api.And, of(api.Gt, col(0), num(1)), col(0))
	e = of(api.And, e, e)
	x := filter(e, scan("u"))
	p := union(x, x, distinct(x))
	for number := 1; number <= 33; number++ {
		places, _ := rule.Places(number, p, someTables())
		for _, at := range places {
			if made, e := rule.Apply(number, p, at, someTables()); e != api.OK || !sharesNothing(made) {
				t.Errorf("rule %d at %v: error %d, or lists share memory", number, at, e)
			}
		}
	}
}

func TestNothingIsKept(t *testing.T) {
	p := parsed(t, "(filter (and #0 #1) (union (scan t) (scan t)))")
	tables := someTables()
	first, _ := rule.Apply(4, p, nil, tables)
	before := printed(first)
	spoilPlan(p)
	for _, table := range tables {
		spoil(table.Columns, api.Column{Name: "spoilt"})
	}
	if printed(first) != before {
		t.Errorf("it became %s", printed(first))
	}
}
