package plan_test

import (
	"slices"
	"testing"

	"tallyhouse/api"
	"tallyhouse/plan"
)

// spoil all that a list holds, spare room included.
func spoil[T any](list []T, with T) {
	list = list[:cap(list)]
	for i := range list {
		list[i] = with
	}
}

// roomy: as the list, with spare room that a careless append would fill.
func roomy[T any](list []T) []T { return append(make([]T, 0, len(list)+3), list...) }

func roomyExpr(e api.Expr) api.Expr {
	e.Args = roomy(e.Args)
	for i, part := range e.Args {
		e.Args[i] = roomyExpr(part)
	}
	return e
}

func roomyPlan(p api.Plan) api.Plan {
	p.Exprs, p.Cols, p.Keys, p.Aggs, p.Args = roomy(p.Exprs), roomy(p.Cols), roomy(p.Keys), roomy(p.Aggs), roomy(p.Args)
	for i, e := range p.Exprs {
		p.Exprs[i] = roomyExpr(e)
	}
	for i, arg := range p.Args {
		p.Args[i] = roomyPlan(arg)
	}
	return p
}

func roomyTables(tables []api.Table) []api.Table {
	tables = roomy(tables)
	for i := range tables {
		tables[i].Columns, tables[i].Rows = roomy(tables[i].Columns), roomy(tables[i].Rows)
		for k, row := range tables[i].Rows {
			tables[i].Rows[k] = roomy(row)
		}
	}
	return tables
}

// shownExpr, shownPlan, shownTables: with spare room shown, in new memory.
func shownExpr(e api.Expr) api.Expr {
	e.Args = slices.Clone(e.Args[:cap(e.Args)])
	for i, part := range e.Args {
		e.Args[i] = shownExpr(part)
	}
	return e
}

func shown[T any](list []T) []T { return slices.Clone(list[:cap(list)]) }

func shownPlan(p api.Plan) api.Plan {
	p.Exprs, p.Cols, p.Keys, p.Aggs, p.Args = shown(p.Exprs), shown(p.Cols), shown(p.Keys), shown(p.Aggs), shown(p.Args)
	for i, e := range p.Exprs {
		p.Exprs[i] = shownExpr(e)
	}
	for i, arg := range p.Args {
		p.Args[i] = shownPlan(arg)
	}
	return p
}

func shownTables(tables []api.Table) []api.Table {
	tables = shown(tables)
	for i := range tables {
		tables[i].Columns, tables[i].Rows = shown(tables[i].Columns), shown(tables[i].Rows)
		for k, row := range tables[i].Rows {
			tables[i].Rows[k] = shown(row)
		}
	}
	return tables
}

func sameTables(a, b []api.Table) bool {
	return slices.EqualFunc(a, b, func(x, y api.Table) bool {
		return x.Name == y.Name && slices.Equal(x.Columns, y.Columns) && sameRows(x.Rows, y.Rows)
	})
}

// spoilPlan: all lists in it.
func spoilPlan(p api.Plan) {
	for _, arg := range p.Args {
		spoilPlan(arg)
	}
	for _, e := range p.Exprs {
		spoil(e.Args, api.Expr{Op: -9})
	}
	spoil(p.Exprs, api.Expr{Op: -9})
	spoil(p.Cols, -9)
	spoil(p.Keys, api.Key{Col: -9})
	spoil(p.Aggs, api.Agg{Fn: -9})
	spoil(p.Args, api.Plan{Op: -9})
}

func TestWhatIsHandedInStaysAsItIs(t *testing.T) {
	each(5, 500, func(m maker, p api.Plan) {
		p, tables := roomyPlan(p), roomyTables(m.tables)
		planBefore, tablesBefore := shownPlan(p), shownTables(tables)
		plan.Good(tables)
		plan.Built(p)
		kinds, _ := plan.Check(p, tables)
		rows, e := plan.Answer(p, tables)
		text, _ := plan.Print(p)
		if !same(shownPlan(p), planBefore) || !sameTables(shownTables(tables), tablesBefore) {
			t.Fatalf("%s has changed what was handed in", text)
		}
		kindsBefore, rowsBefore := slices.Clone(kinds), slices.Clone(rows)
		for i, row := range rows {
			rowsBefore[i] = slices.Clone(row)
		}
		spoilPlan(p)
		for _, table := range tables {
			for _, row := range table.Rows {
				spoil(row, s("spoilt"))
			}
			spoil(table.Columns, api.Column{Name: "spoilt"})
		}
		if !slices.Equal(kinds, kindsBefore) || !sameRows(rows, rowsBefore) {
			t.Fatalf("%s: what was answered, error %d, changed with what was handed in", text, e)
		}
	})
}

func TestRowsOfAnAnswerShareNothing(t *testing.T) {
	each(6, 500, func(m maker, p api.Plan) {
		tables := roomyTables(m.tables)
		before := shownTables(tables)
		rows, _ := plan.Answer(p, tables)
		held := map[*api.Value]int{}
		for _, row := range rows {
			for i := range row[:cap(row)] {
				held[&row[:cap(row)][i]]++
			}
		}
		for _, times := range held {
			if times > 1 {
				t.Fatalf("two rows of %v share memory", p)
			}
		}
		again, _ := plan.Answer(p, tables)
		for _, row := range rows {
			spoil(row, s("spoilt"))
		}
		if third, _ := plan.Answer(p, tables); !sameRows(again, third) || !sameTables(shownTables(tables), before) {
			t.Fatalf("an answer of %v is seen elsewhere", p)
		}
		kinds, _ := plan.Check(p, tables)
		want := slices.Clone(kinds)
		spoil(kinds, -9)
		if more, _ := plan.Check(p, tables); !slices.Equal(more, want) {
			t.Fatalf("the kinds of %v are kept", p)
		}
	})
}

// lists in a plan, by where they begin, as often as they stand there.
func lists(p api.Plan, exprs map[*api.Expr]int, plans map[*api.Plan]int, numbers map[*int]int, keys map[*api.Key]int, aggs map[*api.Agg]int) {
	mark(p.Cols, numbers)
	mark(p.Keys, keys)
	mark(p.Aggs, aggs)
	mark(p.Exprs, exprs)
	mark(p.Args, plans)
	var within func(list []api.Expr)
	within = func(list []api.Expr) {
		for _, e := range list {
			mark(e.Args, exprs)
			within(e.Args)
		}
	}
	within(p.Exprs)
	for _, arg := range p.Args {
		lists(arg, exprs, plans, numbers, keys, aggs)
	}
}

func mark[T any](list []T, seen map[*T]int) {
	list = list[:cap(list)]
	for i := range list {
		seen[&list[i]]++
	}
}

func twice[T any](seen map[*T]int) bool {
	for _, times := range seen {
		if times > 1 {
			return true
		}
	}
	return false
}

func TestParsedPlansAreNewMemory(t *testing.T) {
	each(7, 500, func(m maker, p api.Plan) {
		text, _ := plan.Print(p)
		if len(text) > api.MaxLine {
			return
		}
		first, _ := plan.Parse(text)
		second, _ := plan.Parse(text)
		exprs, plans, numbers, keys, aggs := map[*api.Expr]int{}, map[*api.Plan]int{}, map[*int]int{}, map[*api.Key]int{}, map[*api.Agg]int{}
		lists(first, exprs, plans, numbers, keys, aggs)
		lists(second, exprs, plans, numbers, keys, aggs)
		if twice(exprs) || twice(plans) || twice(numbers) || twice(keys) || twice(aggs) {
			t.Fatalf("two lists of %s share memory", text)
		}
		spoilPlan(first)
		if !same(second, p) {
			t.Fatalf("a plan of %s is seen in another one", text)
		}
	})
}

func TestCopiedPlansAreNewMemory(t *testing.T) {
	each(8, 500, func(m maker, p api.Plan) {
		before := roomyPlan(p)
		p = roomyPlan(p)
		first, second := plan.Copied(p), plan.Copied(p)
		exprs, plans, numbers, keys, aggs := map[*api.Expr]int{}, map[*api.Plan]int{}, map[*int]int{}, map[*api.Key]int{}, map[*api.Agg]int{}
		for _, one := range []api.Plan{p, first, second} {
			lists(one, exprs, plans, numbers, keys, aggs)
		}
		if twice(exprs) || twice(plans) || twice(numbers) || twice(keys) || twice(aggs) {
			t.Fatalf("a copy of %v shares memory", p)
		}
		if !same(first, before) || !same(second, before) {
			t.Fatalf("%v is no copy of %v", first, before)
		}
	})
}
