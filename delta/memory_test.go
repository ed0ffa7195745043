package delta_test

import (
	"slices"
	"testing"

	"tallyhouse/api"
	"tallyhouse/delta"
	"tallyhouse/plan"
)

// texts of plans in which there is one of each operator.
func everyPlan() []string {
	return []string{
		"(scan t)",
		"(filter (gt #0 1) (scan t))",
		"(project (#0 (add #0 1) \"q\") (scan t))",
		"(join (eq #0 #2) (scan t) (scan t))",
		"(leftjoin (and (eq #0 #2) (ne #1 \"b\")) (scan t) (scan t))",
		"(group (1) ((sum 0) (least 0) (most 1) (counteach 0)) (scan t))",
		"(group () ((countall 0)) (scan t))",
		"(distinct (scan t))",
		"(union (scan t) (scan t))",
		"(top ((desc 0)) 2 1 (scan t))",
		"(window sumover 0 1 (1) ((desc 0)) (scan t))",
		"(minus (scan t) (filter (eq #1 \"a\") (scan t)))",
		"(empty (int text))",
	}
}

func spoilRows(rows [][]api.Value) {
	rows = rows[:cap(rows)]
	for i, row := range rows {
		row = row[:cap(row)]
		for k := range row {
			row[k] = text("spoilt")
		}
		rows[i] = nil
	}
}

func spoilChanges(list []api.Change) {
	list = list[:cap(list)]
	for i := range list {
		spoilRows([][]api.Value{list[i].Row})
		list[i] = api.Change{Weight: 77}
	}
}

func spoilExprs(list []api.Expr) {
	for i := range list {
		spoilExprs(list[i].Args)
		list[i] = api.Expr{Op: api.Const, V: num(0)}
	}
}

func spoilPlan(p api.Plan) {
	spoilExprs(p.Exprs)
	for i := range p.Cols {
		p.Cols[i] = 99
	}
	for i := range p.Keys {
		p.Keys[i] = api.Key{Col: 99}
	}
	for i := range p.Aggs {
		p.Aggs[i] = api.Agg{Fn: api.Sum, Col: 99}
	}
	for i := range p.Args {
		spoilPlan(p.Args[i])
		p.Args[i] = api.Plan{}
	}
}

func someTables() []api.Table {
	return []api.Table{table("t", "it", row(num(1), text("a")), row(num(2), null), row(num(2), text("b")), row(num(1), text("a")))}
}

func someDeltas() []api.Delta {
	return []api.Delta{
		in("t", comes(1, num(5), text("b")), comes(-1, num(1), text("a"))),
		in("t", comes(2, num(4), text("a")), comes(-1, num(2), null)),
	}
}

// What is handed in is not kept, and what comes out is nobody else's.
func TestNothingIsShared(t *testing.T) {
	for _, query := range everyPlan() {
		p, tables := parsed(t, query), someTables()
		v, e := delta.New(p, tables)
		if e != api.OK {
			t.Fatalf("%s: error %d", query, e)
		}
		spoilPlan(p)
		spoilRows(tables[0].Rows)
		tables[0].Columns[0] = api.Column{Name: "spoilt", Kind: api.Text}
		tables[0].Name = "spoilt"
		p, tables = parsed(t, query), someTables()
		wantShown(t, v, p, tables)
		for range 2 {
			spoilRows(v.Rows())
			rows, _ := v.Table("t")
			spoilRows(rows)
		}
		wantShown(t, v, p, tables)
		l := someDeltas()
		list, _ := v.Apply(l)
		for _, d := range l {
			spoilChanges(d.Changes)
		}
		spoilChanges(list)
		behind := []api.Table{table("t", "it", row(num(1), text("a")), row(num(2), text("b")),
			row(num(4), text("a")), row(num(4), text("a")), row(num(5), text("b")))}
		wantShown(t, v, p, behind)
		back := []api.Delta{in("t", changed(behind[0].Rows, tables[0].Rows)...)}
		want := changed(answer(t, p, behind), answer(t, p, tables))
		if got := apply(t, v, back...); !sameChanges(got, want) {
			t.Errorf("%s: back again Apply tells %s, not %s", query, told(got), told(want))
		}
		wantShown(t, v, p, tables)
	}
}

func cloneRows(rows [][]api.Value) [][]api.Value {
	out := make([][]api.Value, len(rows))
	for i, row := range rows {
		out[i] = slices.Clone(row)
	}
	return out
}

// What is handed in is not changed.
func TestNothingIsChanged(t *testing.T) {
	for _, query := range everyPlan() {
		p, tables, l := parsed(t, query), someTables(), someDeltas()
		before := cloneRows(tables[0].Rows)
		v, _ := delta.New(p, tables)
		v.Apply(l)
		v.Rows()
		v.Table("t")
		if printed(p) != query || !sameRows(tables[0].Rows, before) {
			t.Errorf("%s has become %s, over %v", query, printed(p), tables)
		}
		for i, d := range someDeltas() {
			if l[i].Table != d.Table || !sameChanges(l[i].Changes, d.Changes) {
				t.Errorf("%s: %v has become %v", query, d, l[i])
			}
		}
	}
}

// No two lists of one answer share memory, the room behind them included.
func TestListsOfAnAnswerAreApart(t *testing.T) {
	for _, query := range everyPlan() {
		v, _ := delta.New(parsed(t, query), someTables())
		list, _ := v.Apply(someDeltas())
		table, _ := v.Table("t")
		rows := slices.Concat(table, v.Rows())
		for _, c := range list {
			rows = append(rows, c.Row)
		}
		want := cloneRows(rows)
		for i := range rows {
			longer := append(rows[i], num(99))
			_ = longer
		}
		if !sameRows(rows, want) {
			t.Errorf("%s: what stands behind a row is another one", query)
		}
		for i := range rows {
			for k := range rows[i] {
				rows[i][k] = num(-99)
			}
			if i+1 < len(rows) && !sameRows(rows[i+1:], want[i+1:]) {
				t.Fatalf("%s: with one row another one changes", query)
			}
		}
	}
}

// Two views of one plan and the same tables know nothing of one another.
func TestViewsAreApart(t *testing.T) {
	for _, query := range everyPlan() {
		p, tables := parsed(t, query), someTables()
		v, _ := delta.New(p, tables)
		w, _ := delta.New(p, tables)
		apply(t, v, someDeltas()...)
		wantShown(t, w, p, tables)
	}
}

// The same calls tell the same, however maps are gone through.
func TestViewsTellTheSameAgain(t *testing.T) {
	for _, query := range everyPlan() {
		want := ""
		for i := range 10 {
			v, _ := delta.New(parsed(t, query), someTables())
			got := told(apply(t, v, someDeltas()...)) + show(v.Rows())
			if i > 0 && got != want {
				t.Fatalf("%s: %s, and once %s", query, got, want)
			}
			want = got
		}
	}
}

func TestPlansAreOfEveryOperator(t *testing.T) {
	seen := map[int]int{}
	for _, query := range everyPlan() {
		p, _ := plan.Parse(query)
		countOps(p, seen)
	}
	if len(seen) != api.Empty {
		t.Errorf("operators: %v", seen)
	}
}
