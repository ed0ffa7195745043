package run_test

import (
	"slices"
	"testing"

	"tallyhouse/api"
	"tallyhouse/plain"
	"tallyhouse/plan"
	"tallyhouse/run"
	"tallyhouse/seg"
)

// example: two tables, of which each operator makes something.
func example() []api.Table {
	return []api.Table{
		table("t", "it", []api.Value{num(1), text("x")}, []api.Value{num(2), null}, []api.Value{num(1), text("x")}, []api.Value{null, text("y")}, []api.Value{num(7), text("z")}),
		table("u", "i", []api.Value{num(7)}, []api.Value{num(1)}, []api.Value{null}, []api.Value{num(1)}),
		table("none", "i"),
	}
}

// Every operator over segments, in batches and with budgets of many sizes.
func TestRun(t *testing.T) {
	for text, want := range map[string]string{
		`(scan t)`:                      `[- "y"][1 "x"][1 "x"][2 -][7 "z"]`,
		`(scan none)`:                   ``,
		`(filter (ne #1 "y") (scan t))`: `[1 "x"][1 "x"][7 "z"]`,
		`(project ((add #0 1) "c" null) (scan t))`:               `[- "c" -][2 "c" -][2 "c" -][3 "c" -][8 "c" -]`,
		`(join (eq #0 #2) (scan t) (scan u))`:                    `[1 "x" 1][1 "x" 1][1 "x" 1][1 "x" 1][7 "z" 7]`,
		`(join (lt #0 #2) (scan t) (scan u))`:                    `[1 "x" 7][1 "x" 7][2 - 7]`,
		`(leftjoin (eq #0 #2) (scan t) (scan u))`:                `[- "y" -][1 "x" 1][1 "x" 1][1 "x" 1][1 "x" 1][2 - -][7 "z" 7]`,
		`(leftjoin (eq #0 #1) (scan u) (scan t))`:                `[- - -][1 1 "x"][1 1 "x"][1 1 "x"][1 1 "x"][7 7 "z"]`,
		`(leftjoin 1 (scan u) (scan none))`:                      `[- -][1 -][1 -][7 -]`,
		`(leftjoin 1 (scan none) (scan u))`:                      ``,
		`(group (0) ((countall 0) (count 1) (most 1)) (scan t))`: `[- 1 1 "y"][1 2 2 "x"][2 1 0 -][7 1 1 "z"]`,
		`(group () ((sum 0) (counteach 0) (least 1)) (scan t))`:  `[11 3 "x"]`,
		`(group () ((countall 0) (sum 0)) (scan none))`:          `[0 -]`,
		`(group (0) () (scan none))`:                             ``,
		`(distinct (scan t))`:                                    `[- "y"][1 "x"][2 -][7 "z"]`,
		`(union (scan u) (scan none) (scan u))`:                  `[-][-][1][1][1][1][7][7]`,
		`(top ((desc 0)) 2 1 (scan t))`:                          `[1 "x"][2 -]`,
		`(top () 0 0 (scan t))`:                                  ``,
		`(window sumover 0 1 () ((desc 0)) (scan u))`:            `[- 1][1 2][1 8][7 7]`,
		`(window number 0 0 (1) () (scan t))`:                    `[- "y" 1][1 "x" 1][1 "x" 2][2 - 1][7 "z" 1]`,
		`(minus (scan u) (project (1) (top () 1 0 (scan t))))`:   `[-][1][7]`,
		`(minus (scan none) (scan u))`:                           ``,
		`(empty (int text))`:                                     ``,
		`(union (empty (int)) (scan u) (empty (int)))`:           `[-][1][1][7]`,
	} {
		for _, batch := range []int{1, 2, 3, 5, api.MaxBatch} {
			for _, budget := range []int{api.MinBudget, 5, 8, api.MaxBudget} {
				for _, sizes := range [][]int{{1}, {2}, {3, 1}, {api.MaxRows}} {
					w := newWard(t, budget, example(), sizes...)
					if e := w.run(t, parsed(t, text), batch); e != api.OK || show(w.out) != want {
						t.Errorf("%s: %s, error %d, not %s", text, show(w.out), e, want)
					}
				}
			}
		}
	}
}

// Whatever the plan, it is as plan.Answer says, and no more is asked for, held
// and put than may be.
func TestManyPlans(t *testing.T) {
	seen := map[int]int{}
	runs, spared := 0, 0
	each(1, 3500, func(m maker, p api.Plan) {
		budget := []int{4, 5, 7, 12, 100, api.MaxBudget}[m.Intn(6)]
		batch := []int{1, 2, 3, 5, 8, api.MaxBatch}[m.Intn(6)]
		w := newWard(t, budget, m.tables, m.sizes()...)
		e := w.run(t, p, batch)
		want, _ := plan.Answer(p, m.tables)
		if e != api.OK || !sameRows(w.out, want) {
			t.Fatalf("%s over %v: %s, error %d, not %s", printed(p), m.tables, show(w.out), e, show(want))
		}
		if w.puts > mostPuts(len(want), budget) || len(want) < budget && w.news > 0 {
			t.Fatalf("%d Puts of %d rows, %d runs, budget %d", w.puts, len(want), w.news, budget)
		}
		lists := asksOf(p, w, nil)
		if !isMadeOf(w.asked, lists, !has(p, api.Join, api.LeftJoin)) {
			t.Fatalf("%s: %v, not %v", printed(p), w.asked, lists)
		}
		seen[p.Op]++
		runs += w.news
		spared += w.spared()
	})
	for op := api.Scan; op <= api.Empty; op++ {
		if seen[op] < 50 {
			t.Errorf("operator %d was seen %d times", op, seen[op])
		}
	}
	if runs < 3000 || spared < 2000 {
		t.Errorf("only %d runs, and %d segments that were not read", runs, spared)
	}
}

// has: is one of these operators in a plan?
func has(p api.Plan, ops ...int) bool {
	return slices.Contains(ops, p.Op) || slices.ContainsFunc(p.Args, func(arg api.Plan) bool { return has(arg, ops...) })
}

// asksOf a plan, by the document's words: a list for each Scan. Over it stand
// Filters alone with these conditions.
func asksOf(p api.Plan, w *ward, filters []api.Expr) [][]ask {
	if p.Op == api.Scan {
		var list []ask
		kinds := kindsOf(w.tables[slices.IndexFunc(w.tables, func(t api.Table) bool { return t.Name == p.Table })])
		for k, head := range w.shelves[p.Table].heads {
			list = append(list, ask{p.Table, k, false})
			needed := true
			for _, condition := range filters {
				may, e := seg.May(kinds, head, condition)
				needed = needed && (may || e != api.OK)
			}
			if needed {
				list = append(list, ask{p.Table, k, true})
			}
		}
		return [][]ask{list}
	}
	var lists [][]ask
	for _, arg := range p.Args {
		var below []api.Expr
		if p.Op == api.Filter {
			below = slices.Concat(filters, p.Exprs)
		}
		lists = append(lists, asksOf(arg, w, below)...)
	}
	return lists
}

// isMadeOf these lists, in any order; each of them, if all is so.
func isMadeOf(asked []ask, lists [][]ask, all bool) bool {
	if len(lists) == 0 || !all && len(asked) == 0 {
		return len(asked) == 0
	}
	for i, list := range lists {
		if len(list) > len(asked) || !slices.Equal(list, asked[:len(list)]) {
			continue
		}
		if isMadeOf(asked[len(list):], slices.Delete(slices.Clone(lists), i, i+1), all) {
			return true
		}
	}
	return false
}

// spared: how many segments were asked for without being read.
func (w *ward) spared() int {
	count := 0
	for _, a := range w.asked {
		if a.read {
			count--
		} else {
			count++
		}
	}
	return count
}

// Batch, budget and how the rows lie make no difference.
func TestNothingElseMakesADifference(t *testing.T) {
	each(2, 120, func(m maker, p api.Plan) {
		want, _ := plan.Answer(p, m.tables)
		for batch := 1; batch <= 5; batch++ {
			for _, size := range []int{1, 3, api.MaxRows} {
				for i := range m.tables {
					rows := m.tables[i].Rows
					m.Shuffle(len(rows), func(a, b int) { rows[a], rows[b] = rows[b], rows[a] })
				}
				w := newWard(t, 4+m.Intn(12), m.tables, size)
				if e := w.run(t, p, batch); e != api.OK || !sameRows(w.out, want) {
					t.Fatalf("%s, batch %d: %s, error %d, not %s", printed(p), batch, show(w.out), e, show(want))
				}
			}
		}
	})
}

// Many rows, in segments and batches that are full.
func TestManyRows(t *testing.T) {
	const count = 3*api.MaxRows + 5
	tables := []api.Table{table("t", "i", counted(count)...)}
	for _, budget := range []int{4, 64, count, count + 1} {
		for _, batch := range []int{1, 1000, api.MaxBatch} {
			w := newWard(t, budget, tables, api.MaxRows)
			e := w.run(t, parsed(t, "(project ((sub 0 #0)) (scan t))"), batch)
			if e != api.OK || len(w.out) != count || w.out[0][0] != num(1-count) || w.out[count-1][0] != num(0) {
				t.Errorf("%d rows, error %d", len(w.out), e)
			}
			if w.puts > mostPuts(count, budget) || budget > count && w.news > 0 {
				t.Errorf("budget %d: %d Puts, %d runs", budget, w.puts, w.news)
			}
		}
	}
}

// Of a plan that means few rows there may be many within.
func TestManyRowsWithin(t *testing.T) {
	tables := []api.Table{table("t", "i", counted(1500)...), table("u", "i", counted(3)...)}
	for text, want := range map[string]string{
		"(group () ((countall 0)) (join 1 (scan t) (scan t)))":                                     "[2250000]",
		"(group () ((countall 0)) (join (eq #0 #1) (scan u) (join (lt #0 #1) (scan t) (scan t))))": "[4494]",
		"(top ((desc 0) 1) 2 0 (join (ne #0 #1) (scan t) (scan t)))":                               "[1499 0][1499 1]",
		"(distinct (project ((mod #0 2) (mod #1 2)) (join 1 (scan t) (scan u))))":                  "[0 0][0 1][1 0][1 1]",
	} {
		w := newWard(t, 4, tables, 700)
		if e := w.run(t, parsed(t, text), 1024); e != api.OK || show(w.out) != want {
			t.Errorf("%s: %s, error %d, not %s", text, show(w.out), e, want)
		}
	}
}

func TestRunOverAPlainShelf(t *testing.T) {
	each(3, 300, func(m maker, p api.Plan) {
		w := newWard(t, 4, m.tables, m.sizes()...)
		s := &plain.Shelf{Is: w.tables}
		for _, table := range w.tables {
			s.Segments = append(s.Segments, w.shelves[table.Name].segments)
			s.Heads = append(s.Heads, w.shelves[table.Name].heads)
		}
		y := plain.New(0, api.OK)
		budget := 4 + m.Intn(9)
		e := run.Run(p, s, 1+m.Intn(9), budget, y, y)
		want, _ := plan.Answer(p, m.tables)
		if e != api.OK || !sameRows(y.Out, want) || s.Wrong || y.Wrong || y.Held != 0 || y.Most > budget || y.Left() != 0 {
			t.Fatalf("%s: error %d, %d rows, held %d, at most %d, left %d", printed(p), e, len(y.Out), y.Held, y.Most, y.Left())
		}
	})
}
