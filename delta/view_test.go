package delta_test

import (
	"math/rand"
	"slices"
	"testing"

	"tallyhouse/api"
	"tallyhouse/cell"
	"tallyhouse/delta"
	"tallyhouse/plan"
)

// changed: what comes and goes between two lists of rows, by the document's
// words.
func changed(before, after [][]api.Value) []api.Change {
	times := map[string]int64{}
	for _, row := range before {
		times[cell.Key(row)]--
	}
	for _, row := range after {
		times[cell.Key(row)]++
	}
	all := slices.Concat(before, after)
	slices.SortFunc(all, orderRows)
	var list []api.Change
	for _, row := range slices.CompactFunc(all, slices.Equal) {
		if more := times[cell.Key(row)]; more != 0 {
			list = append(list, api.Change{Row: row, Weight: more})
		}
	}
	return list
}

func answer(t *testing.T, p api.Plan, tables []api.Table) [][]api.Value {
	t.Helper()
	rows, e := plan.Answer(p, tables)
	if e != api.OK {
		t.Fatalf("%s has no answer: error %d", printed(p), e)
	}
	return rows
}

// wantShown: the view shows what its plan answers over these tables, and them.
func wantShown(t *testing.T, v *delta.View, p api.Plan, tables []api.Table) {
	t.Helper()
	if got, want := v.Rows(), answer(t, p, tables); !sameRows(got, want) {
		t.Fatalf("%s over %v: Rows %s, not %s", printed(p), tables, show(got), show(want))
	}
	for _, table := range tables {
		want := slices.Clone(table.Rows)
		slices.SortFunc(want, orderRows)
		if got, e := v.Table(table.Name); e != api.OK || !sameRows(got, want) {
			t.Fatalf("Table %s: %s, error %d, not %s", table.Name, show(got), e, show(want))
		}
	}
}

// countOps in a plan.
func countOps(p api.Plan, times map[int]int) {
	times[p.Op]++
	for _, arg := range p.Args {
		countOps(arg, times)
	}
}

func TestManyViewsAreTheirQuestions(t *testing.T) {
	m := maker{Rand: rand.New(rand.NewSource(1))}
	outermost, within, changes := map[int]int{}, map[int]int{}, map[int]int{}
	for range 5000 {
		m.tables = []api.Table{m.table("t", "it"), m.table("u", "iti"), m.table("v", "t")}
		p := m.plan(1 + m.Intn(6))
		if _, e := plan.Check(p, m.tables); e != api.OK || span(p) > 2000 {
			continue
		}
		v, e := delta.New(p, m.tables)
		if e != api.OK {
			t.Fatalf("New of %s: error %d", printed(p), e)
		}
		wantShown(t, v, p, m.tables)
		for range 1 + m.Intn(8) {
			l, behind := m.deltas()
			want := changed(answer(t, p, m.tables), answer(t, p, behind))
			if got := apply(t, v, l...); !sameChanges(got, want) {
				t.Fatalf("%s over %v: Apply of %v tells %s, not %s", printed(p), m.tables, l, told(got), told(want))
			}
			m.tables = behind
			wantShown(t, v, p, m.tables)
			changes[p.Op] += len(want)
		}
		outermost[p.Op]++
		countOps(p, within)
	}
	for op := api.Scan; op <= api.Empty; op++ {
		if outermost[op] < 10 || within[op] < 100 || changes[op] < 100 && op != api.Empty {
			t.Errorf("operator %d was seen %d times outermost, %d times in all, with %d changes", op, outermost[op], within[op], changes[op])
		}
	}
}

// Over one table, in many small steps, up and down to nothing.
func TestViewsOfATableThatGrowsAndShrinks(t *testing.T) {
	for _, text := range []string{
		"(scan t)",
		"(filter (gt #0 2) (scan t))",
		"(project (#1 (add #0 1)) (scan t))",
		"(join (eq #0 #3) (scan t) (scan t))",
		"(join (lt #0 #2) (scan t) (scan t))",
		"(join (and (eq #0 #2) (eq #3 #1)) (scan t) (filter (ne #0 1) (scan t)))",
		"(leftjoin (eq #0 #3) (scan t) (scan t))",
		"(leftjoin (gt #0 #2) (scan t) (filter (gt #1 2) (scan t)))",
		"(leftjoin null (scan t) (scan t))",
		"(group () ((countall 0) (count 1) (sum 1) (least 1) (most 1) (counteach 1)) (scan t))",
		"(group (0) ((countall 0) (count 1) (sum 1) (least 1) (most 1) (counteach 1)) (scan t))",
		"(group (1 0) () (scan t))",
		"(distinct (project (#1) (scan t)))",
		"(union (scan t) (filter #0 (scan t)) (scan t))",
		"(top () 3 0 (scan t))",
		"(top ((desc 1)) 2 3 (scan t))",
		"(top (1 (desc 0)) 9 1 (project (#0 #1) (scan t)))",
		"(top () 0 0 (scan t))",
		"(window number 0 0 () () (scan t))",
		"(window number 0 0 (0) ((desc 1)) (scan t))",
		"(window rank 0 0 () (0) (scan t))",
		"(window dense 0 0 (1) (0) (scan t))",
		"(window sumover 1 1 () ((desc 0)) (scan t))",
		"(window sumover 1 -1 (0) () (scan t))",
		"(window countover 1 2 () (1) (scan t))",
		"(window ahead 1 1 (0) (1) (scan t))",
		"(minus (scan t) (filter (gt #1 1) (scan t)))",
		"(minus (project (#0) (scan t)) (project (#1) (scan t)))",
		"(empty (int text))",
	} {
		growAndShrink(t, parsed(t, text))
	}
}

func growAndShrink(t *testing.T, p api.Plan) {
	t.Helper()
	r := rand.New(rand.NewSource(4))
	now := []api.Table{table("t", "ii")}
	v, e := delta.New(p, now)
	if e != api.OK {
		t.Fatalf("New of %s: error %d", printed(p), e)
	}
	wantShown(t, v, p, now)
	any := func() api.Value { return []api.Value{null, num(0), num(1), num(2), num(3), num(4)}[r.Intn(6)] }
	for i := range 60 {
		behind := []api.Table{table("t", "ii", slices.Clone(now[0].Rows)...)}
		rows, c := &behind[0].Rows, api.Change{Row: row(any(), any()), Weight: 1 + r.Int63n(3)}
		if i >= 30 {
			if len(*rows) == 0 {
				break
			}
			k := r.Intn(len(*rows))
			c = api.Change{Row: (*rows)[k], Weight: -1}
			*rows = slices.Delete(*rows, k, k+1)
		}
		for range c.Weight {
			*rows = append(*rows, c.Row)
		}
		want := changed(answer(t, p, now), answer(t, p, behind))
		if got := apply(t, v, in("t", c)); !sameChanges(got, want) {
			t.Fatalf("%s over %v: Apply of %v tells %s, not %s", printed(p), now, c, told(got), told(want))
		}
		now = behind
		wantShown(t, v, p, now)
	}
	all := changed(now[0].Rows, nil)
	want := changed(answer(t, p, now), answer(t, p, []api.Table{table("t", "ii")}))
	if got := apply(t, v, in("t", all...)); !sameChanges(got, want) {
		t.Fatalf("%s: when all goes, Apply tells %s, not %s", printed(p), told(got), told(want))
	}
	wantShown(t, v, p, []api.Table{table("t", "ii")})
}

// What is told of one change, spelled out.
func TestWhatIsTold(t *testing.T) {
	t1 := table("t", "it", row(num(1), text("x")), row(num(2), null), row(num(1), text("x")))
	u := table("u", "i", ints(1, 2, 2)...)
	l := []api.Delta{
		in("t", comes(-1, num(1), text("x")), comes(2, null, text("y"))),
		in("u", comes(-2, num(2)), comes(1, num(3))),
		in("t", comes(-1, null, text("y")), comes(0, num(9), text("z"))),
	}
	for _, c := range []struct{ plan, told, rows string }{
		{"(scan t)", `+1[- "y"]-1[1 "x"]`, `[- "y"][1 "x"][2 -]`},
		{"(filter (eq #1 \"x\") (scan t))", `-1[1 "x"]`, `[1 "x"]`},
		{"(filter (ge #0 2) (scan t))", ``, `[2 -]`},
		{"(project (#1) (scan t))", `-1["x"]+1["y"]`, `[-]["x"]["y"]`},
		{"(project (7) (scan t))", ``, `[7][7][7]`},
		{"(join (eq #0 #2) (scan t) (scan u))", `-1[1 "x" 1]-2[2 - 2]`, `[1 "x" 1]`},
		{"(leftjoin (eq #0 #2) (scan t) (scan u))", `+1[- "y" -]-1[1 "x" 1]+1[2 - -]-2[2 - 2]`, `[- "y" -][1 "x" 1][2 - -]`},
		{"(leftjoin (eq #0 #1) (scan u) (scan t))", `-1[1 1 "x"]-2[2 2 -]+1[3 - -]`, `[1 1 "x"][3 - -]`},
		{"(group (0) ((countall 0) (count 1)) (scan t))", `+1[- 1 1]+1[1 1 1]-1[1 2 2]`, `[- 1 1][1 1 1][2 1 0]`},
		{"(group () ((sum 0) (least 0) (most 0) (counteach 0)) (scan u))", `+1[4 1 3 2]-1[5 1 2 2]`, `[4 1 3 2]`},
		{"(group () ((countall 0)) (scan t))", ``, `[3]`},
		{"(distinct (scan u))", `-1[2]+1[3]`, `[1][3]`},
		{"(distinct (project (#1) (scan t)))", `+1["y"]`, `[-]["x"]["y"]`},
		{"(union (scan u) (project (#0) (scan t)))", `+1[-]-1[1]-2[2]+1[3]`, `[-][1][1][2][3]`},
		{"(top () 1 1 (scan u))", `-1[2]+1[3]`, `[3]`},
		{"(top ((desc 0)) 2 0 (scan t))", ``, `[1 "x"][2 -]`},
		{"(window number 0 0 () () (scan u))", `-1[2 2]-1[2 3]+1[3 2]`, `[1 1][3 2]`},
		{"(window sumover 0 1 () ((desc 0)) (scan u))", `-1[1 3]+1[1 4]-1[2 2]-1[2 4]+1[3 3]`, `[1 4][3 3]`},
		{"(minus (project (#0) (scan t)) (scan u))", `+1[-]-1[1]+1[2]`, `[-][2]`},
		{"(minus (scan u) (project (#0) (scan t)))", `-1[2]+1[3]`, `[3]`},
		{"(empty (int))", ``, ``},
	} {
		v := newView(t, c.plan, t1, u)
		if got := told(apply(t, v, l...)); got != c.told {
			t.Errorf("%s: Apply tells %s, not %s", c.plan, got, c.told)
		}
		if got := show(v.Rows()); got != c.rows {
			t.Errorf("%s: Rows %s, not %s", c.plan, got, c.rows)
		}
		if got := told(apply(t, v)); got != "" {
			t.Errorf("%s: of nothing Apply tells %s", c.plan, got)
		}
	}
}

// What comes and goes again at once has not changed.
func TestWhatIsAddedUpIsNothing(t *testing.T) {
	v := newView(t, "(scan t)", table("t", "i", ints(1)...), table("u", "i"))
	for _, l := range [][]api.Delta{
		nil,
		{in("t")},
		{in("t"), in("u"), in("t")},
		{in("t", comes(0, num(1)))},
		{in("t", comes(-7, num(5)), comes(7, num(5)))},
		{in("t", comes(-7, num(5)), comes(3, num(5))), in("u"), in("t", comes(4, num(5)))},
		{in("t", comes(-1<<40, num(1))), in("t", comes(1<<40, num(1)))},
	} {
		if list, e := v.Apply(l); e != api.OK || len(list) != 0 {
			t.Errorf("Apply of %v: %s, error %d", l, told(list), e)
		}
		if got := show(v.Rows()); got != "[1]" {
			t.Errorf("Rows behind %v: %s", l, got)
		}
	}
}

// A table of which the plan does not speak changes as well.
func TestATableThatIsNotAskedFor(t *testing.T) {
	v := newView(t, "(scan t)", table("t", "i", ints(1)...), table("u", "t", row(text("b"))))
	if list := apply(t, v, in("u", comes(2, text("a")), comes(1, null))); len(list) != 0 {
		t.Errorf("Apply tells %s", told(list))
	}
	if rows, e := v.Table("u"); e != api.OK || show(rows) != `[-]["a"]["a"]["b"]` {
		t.Errorf("Table u: %s, error %d", show(rows), e)
	}
	if rows, e := v.Table("t"); e != api.OK || show(rows) != "[1]" {
		t.Errorf("Table t: %s, error %d", show(rows), e)
	}
}

// Sums go beyond 64 bits, and come back.
func TestSumsThatAreNoNumbers(t *testing.T) {
	v := newView(t, "(group () ((sum 0)) (scan t))", table("t", "i"))
	most, least := api.Value{Kind: api.Int, N: 1<<63 - 1}, api.Value{Kind: api.Int, N: -1 << 63}
	for _, c := range []struct {
		change api.Change
		rows   string
	}{
		{comes(1, most), "[9223372036854775807]"},
		{comes(1, num(1)), "[-]"},
		{comes(1<<20-4, most), "[-]"},
		{comes(1, least), "[-]"},
		{comes(-(1<<20 - 4), most), "[0]"},
		{comes(1<<20-4, least), "[-]"},
		{comes(-1, most), "[-]"},
		{comes(-(1<<20 - 4), least), "[-9223372036854775807]"},
		{comes(-1, num(1)), "[-9223372036854775808]"},
		{comes(1, num(-1)), "[-]"},
		{comes(-1, least), "[-1]"},
		{comes(5, null), "[-1]"},
		{comes(-1, num(-1)), "[-]"},
	} {
		apply(t, v, in("t", c.change))
		if got := show(v.Rows()); got != c.rows {
			t.Fatalf("behind %v: %s, not %s", c.change, got, c.rows)
		}
	}
}
