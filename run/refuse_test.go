package run_test

import (
	"math"
	"strings"
	"testing"

	"tallyhouse/api"
	"tallyhouse/plan"
	"tallyhouse/run"
	"tallyhouse/seg"
)

// refusable: plans that ask much of everybody.
func refusable() []string {
	return []string{
		"(scan t)",
		"(filter (gt #0 1) (scan t))",
		"(join 1 (scan t) (scan u))",
		"(leftjoin (eq #0 #2) (scan t) (scan u))",
		"(union (scan u) (project (#0) (scan t)) (scan u))",
		"(minus (project (#0) (scan t)) (scan u))",
		"(window number 0 0 () () (scan t))",
		"(top () 9 0 (union (scan t) (scan t)))",
		"(group (0) () (distinct (scan t)))",
	}
}

// Each call of anybody is refused in turn: its number is the answer, and
// nothing more is asked but that runs are dropped.
func TestRefusals(t *testing.T) {
	codes := []api.Errno{api.ErrRoom, 66, -1, api.ErrArg, api.ErrDamage}
	for _, text := range refusable() {
		for _, batch := range []int{1, 2, 100} {
			for _, budget := range []int{4, 5, 100} {
				want := 0
				for k := 1; ; k++ {
					w := newWard(t, budget, example(), 2)
					w.refuse, w.code, w.dropCode = k, codes[k%len(codes)], api.Errno(k%3)
					e := w.run(t, parsed(t, text), batch)
					if !w.refused {
						if e != api.OK {
							t.Errorf("%s: error %d", text, e)
						}
						want = len(w.out)
						break
					}
				}
				if want == 0 {
					t.Errorf("%s has no rows", text)
				}
			}
		}
	}
}

// What was handed to the sink ahead of a refusal is what comes first.
func TestWhatWasHandedOutStays(t *testing.T) {
	tables := []api.Table{table("t", "i", counted(30)...)}
	for k := 1; ; k++ {
		w := newWard(t, 5, tables, 7)
		w.refuse, w.code = k, 66
		w.run(t, parsed(t, "(scan t)"), 3)
		if !sameRows(w.out, counted(30)[:len(w.out)]) {
			t.Errorf("refused at %d: %s", k, show(w.out))
		}
		if !w.refused {
			break
		}
	}
}

// A Drop that is refused ends it, too.
func TestRefusedDrops(t *testing.T) {
	tables := []api.Table{table("t", "i", counted(60)...)}
	for k := 1; ; k++ {
		w := newWard(t, 4, tables, 7)
		w.refuseDrop, w.code, w.dropCode = k, 77, 78
		w.run(t, parsed(t, "(scan t)"), 3)
		if !w.refused {
			if k < 5 {
				t.Errorf("only %d Drops", k)
			}
			break
		}
	}
}

// damaged: what a source may answer that is no segment of the table t.
func damaged(t *testing.T) map[string]string {
	t.Helper()
	build := func(kinds []int, rows ...[]api.Value) string {
		s, e := seg.Build(kinds, rows)
		if e != api.OK {
			t.Fatalf("error %d", e)
		}
		return s
	}
	good := build([]int{api.Int, api.Text}, []api.Value{num(1), text("x")})
	return map[string]string{
		"nothing":             "",
		"a beginning":         "S1",
		"cut":                 good[:len(good)-1],
		"longer":              good + "\x00",
		"a bit turned":        strings.Replace(good, "x", "y", 1),
		"kinds turned":        build([]int{api.Text, api.Int}, []api.Value{text("x"), num(1)}),
		"another kind":        build([]int{api.Int, api.Int}, []api.Value{num(1), num(1)}),
		"fewer columns":       build([]int{api.Int}, []api.Value{num(1)}),
		"more columns":        build([]int{api.Int, api.Text, api.Int}, []api.Value{num(1), text("x"), num(1)}),
		"other kinds of none": build([]int{api.Text, api.Text}),
		"nulls of other kind": build([]int{api.Text, api.Int}, []api.Value{null, null}),
	}
}

func TestDamage(t *testing.T) {
	for what, bytes := range damaged(t) {
		for k := range 4 {
			w := lying(t)
			w.shelves["t"].segments[k] = bytes
			e := w.run(t, parsed(t, "(union (scan t) (scan t))"), 2)
			if e != api.ErrDamage || len(w.out) != 0 || len(w.asked) != 2*k+2 {
				t.Errorf("%s at %d: error %d, %s, %v", what, k, e, show(w.out), w.asked)
			}
		}
		// What need not be read is not found to be damaged.
		w := lying(t)
		w.shelves["t"].segments[1] = bytes
		if e := w.run(t, parsed(t, "(filter (gt #0 6) (scan t))"), 2); e != api.OK || show(w.out) != `[7 "x"]` {
			t.Errorf("%s: %s, error %d", what, show(w.out), e)
		}
	}
}

// Damage ends it when there are runs as well: they are dropped.
func TestDamageBehindRuns(t *testing.T) {
	w := newWard(t, 4, []api.Table{table("t", "i", counted(50)...)}, 5)
	w.shelves["t"].segments[9] = "S1"
	e := w.run(t, parsed(t, "(scan t)"), 2)
	if e != api.ErrDamage || w.news < 3 || w.drops != w.news || len(w.out) != 0 {
		t.Errorf("error %d, %d runs, %d Drops, %d rows", e, w.news, w.drops, len(w.out))
	}
}

// What may not be handed in: nobody is asked for anything.
func TestArguments(t *testing.T) {
	type call struct {
		batch, budget      int
		source, room, sink bool
	}
	good := call{batch: 2, budget: 4, source: true, room: true, sink: true}
	var calls []call
	with := func(change func(c *call)) {
		c := good
		change(&c)
		calls = append(calls, c)
	}
	with(func(c *call) { c.source = false })
	with(func(c *call) { c.room = false })
	with(func(c *call) { c.sink = false })
	for _, batch := range []int{0, -1, api.MaxBatch + 1, math.MaxInt, math.MinInt} {
		with(func(c *call) { c.batch = batch })
		with(func(c *call) { c.batch, c.room = batch, false })
	}
	for _, budget := range []int{api.MinBudget - 1, 0, -4, api.MaxBudget + 1, math.MaxInt, math.MinInt} {
		with(func(c *call) { c.budget = budget })
	}
	for _, c := range calls {
		for _, p := range []api.Plan{parsed(t, "(scan t)"), parsed(t, "(scan absent)"), {Op: 99}} {
			w := lying(t)
			var source api.Source
			var room api.Room
			var sink api.Sink
			if c.source {
				source = w
			}
			if c.room {
				room = w
			}
			if c.sink {
				sink = w
			}
			e := run.Run(p, source, c.batch, c.budget, room, sink)
			if e != api.ErrArg || w.told != 0 || len(w.counted) != 0 || w.calls != 0 {
				t.Errorf("%v: error %d; %d calls", c, e, w.told+w.calls)
			}
		}
	}
	for _, c := range []call{{batch: 1, budget: api.MinBudget}, {batch: api.MaxBatch, budget: api.MaxBudget}} {
		w := lying(t)
		if e := run.Run(parsed(t, "(scan t)"), w, c.batch, c.budget, w, w); e != api.OK || len(w.out) != 9 {
			t.Errorf("%v: error %d, %d rows", c, e, len(w.out))
		}
	}
}

// refusedPlans: plans that Check refuses over the tables of lying.
func refusedPlans(t *testing.T) map[string]api.Plan {
	t.Helper()
	large := parsed(t, "(scan t)")
	for range api.MaxDepth {
		large = over(api.Plan{Op: api.Distinct}, large)
	}
	return map[string]api.Plan{
		"nothing":       {},
		"no such op":    {Op: 13},
		"too high":      large,
		"no Args":       {Op: api.Distinct},
		"a name":        {Op: api.Scan, Table: "T"},
		"absent":        parsed(t, "(scan absent)"),
		"deep":          parsed(t, "(join 1 (scan t) (distinct (scan absent)))"),
		"no column":     parsed(t, "(filter #2 (scan t))"),
		"a wrong kind":  parsed(t, "(filter #1 (scan t))"),
		"unlike kinds":  parsed(t, "(union (scan t) (scan u))"),
		"sum of a text": parsed(t, "(group () ((sum 1)) (scan t))"),
		"not clean":     {Op: api.Filter, Exprs: []api.Expr{con(api.Value{Kind: api.Int, N: 1, S: "x"})}, Args: []api.Plan{{Op: api.Scan, Table: "t"}}},
	}
}

// What Check refuses: Tables is asked once, and nothing else.
func TestErrorsOfCheck(t *testing.T) {
	for what, p := range refusedPlans(t) {
		w := lying(t)
		_, want := plan.Check(p, w.tables)
		e := w.run(t, p, 2)
		if want == api.OK || e != want || len(w.counted) != 0 || w.calls != 0 {
			t.Errorf("%s: error %d, not %d; %d calls", what, e, want, w.calls)
		}
	}
}

func TestTablesThatAreNotGood(t *testing.T) {
	for what, change := range map[string]func(w *ward){
		"a name":          func(w *ward) { w.tables[2].Name = "None" },
		"the same name":   func(w *ward) { w.tables[2].Name = "u" },
		"no columns":      func(w *ward) { w.tables[2].Columns = nil },
		"a kind":          func(w *ward) { w.tables[2].Columns[0].Kind = 3 },
		"a column's name": func(w *ward) { w.tables[2].Columns[0].Name = "" },
	} {
		for _, text := range []string{"(scan u)", "(scan absent)", "(filter #9 (scan u))"} {
			w := lying(t)
			change(w)
			if e := w.run(t, parsed(t, text), 2); e != api.ErrArg || w.calls != 0 || len(w.counted) != 0 {
				t.Errorf("%s: %s: error %d, %d calls", what, text, e, w.calls)
			}
		}
	}
	w := lying(t)
	w.tables = nil
	if e := w.run(t, parsed(t, "(scan u)"), 2); e != api.ErrAbsent {
		t.Errorf("no tables: error %d", e)
	}
}
