package run_test

import (
	"fmt"
	"slices"
	"strings"
	"testing"

	"tallyhouse/api"
	"tallyhouse/plan"
	"tallyhouse/run"
)

// lying: tables in segments whose heads tell something: of t the numbers 1 to
// 3, 4 to 6, nulls alone, 7 and null; of u two segments of one number each; of
// none no segment at all, of blank one without rows.
func lying(t *testing.T) *ward {
	t.Helper()
	w := newWard(t, 4, []api.Table{table("t", "it"), table("u", "i"), table("none", "i"), table("blank", "i")})
	both := func(values ...api.Value) [][]api.Value {
		var rows [][]api.Value
		for _, v := range values {
			rows = append(rows, []api.Value{v, text("x")})
		}
		return rows
	}
	one, two := []int{api.Int}, []int{api.Int, api.Text}
	w.shelves["t"] = shelf{}.with(t, two, both(num(1), num(3), num(2))).with(t, two, both(num(6), num(4))).with(t, two, both(null, null)).with(t, two, both(null, num(7)))
	w.shelves["u"] = shelf{}.with(t, one, ints(5)).with(t, one, ints(2))
	w.shelves["blank"] = shelf{}.with(t, one, nil)
	return w
}

// spelled: asks as a text: a table's name, and behind it of each segment that
// was asked for its number, with an h if it was not read.
func spelled(asked []ask) string {
	var out strings.Builder
	last := ""
	for i, a := range asked {
		if a.read {
			continue
		}
		if a.table != last || a.k == 0 {
			fmt.Fprintf(&out, " %s:", a.table)
			last = a.table
		}
		fmt.Fprint(&out, a.k)
		if i+1 == len(asked) || asked[i+1] != (ask{a.table, a.k, true}) {
			out.WriteString("h")
		}
	}
	return strings.TrimSpace(out.String())
}

// What is asked for, and what of it is read.
func TestWhatIsRead(t *testing.T) {
	for text, want := range map[string]string{
		"(scan t)":     "t:0123",
		"(scan none)":  "",
		"(scan blank)": "blank:0",
		// A Filter directly over the Scan.
		"(filter (gt #0 3) (scan t))":                "t:0h12h3",
		"(filter (lt 3 #0) (scan t))":                "t:0h12h3",
		"(filter (eq #0 2) (scan t))":                "t:01h2h3h",
		"(filter (le #0 4) (scan t))":                "t:012h3h",
		"(filter (isnull #0) (scan t))":              "t:0h1h23",
		"(filter (not (isnull #0)) (scan t))":        "t:012h3",
		"(filter 0 (scan t))":                        "t:0h1h2h3h",
		"(filter null (scan t))":                     "t:0h1h2h3h",
		"(filter 1 (scan t))":                        "t:0123",
		"(filter (and #0 (gt #0 3)) (scan t))":       "t:0h12h3",
		"(filter (or 0 (gt #0 3)) (scan t))":         "t:0123",
		"(filter (gt (add #0 0) 3) (scan t))":        "t:0123",
		"(filter (eq #1 \"y\") (scan t))":            "t:0h1h2h3h",
		"(filter 1 (scan blank))":                    "blank:0h",
		"(filter (gt #0 3) (scan none))":             "",
		"(distinct (filter (gt #0 3) (scan t)))":     "t:0h12h3",
		"(project (1) (filter 0 (scan u)))":          "u:0h1h",
		"(group () ((count 0)) (filter 0 (scan u)))": "u:0h1h",
		// Filters over it alone.
		"(filter (gt #0 3) (filter (lt #0 7) (scan t)))":     "t:0h12h3h",
		"(filter (lt #0 7) (filter (gt #0 3) (scan t)))":     "t:0h12h3h",
		"(filter 0 (filter 1 (filter #0 (scan u))))":         "u:0h1h",
		"(filter #0 (filter 1 (filter (eq #0 2) (scan u))))": "u:0h1",
		"(filter (eq #0 2) (filter (ne #0 2) (scan u)))":     "u:0h1h",
		// What stands between them makes it another's condition.
		"(filter 0 (project (#0) (scan u)))":                           "u:01",
		"(filter 0 (distinct (scan u)))":                               "u:01",
		"(filter 0 (union (scan u)))":                                  "u:01",
		"(filter 0 (union (scan u) (filter (gt #0 2) (scan u))))":      "u:01 u:01h",
		"(filter 0 (top () 9 0 (scan u)))":                             "u:01",
		"(filter 0 (window number 0 0 () () (scan u)))":                "u:01",
		"(filter 0 (group (0) () (scan u)))":                           "u:01",
		"(filter 0 (distinct (filter (gt #0 2) (scan u))))":            "u:01h",
		"(filter (eq #0 2) (minus (scan u) (scan u)))":                 "u:01 u:01",
		"(minus (filter (eq #0 2) (scan u)) (scan u))":                 "u:01 u:0h1",
		"(minus (scan u) (filter (eq #0 2) (scan u)))":                 "u:0h1 u:01",
		"(filter (eq #0 2) (join 1 (scan u) (scan u)))":                "u:01 u:01",
		"(join (eq #0 2) (scan u) (scan u))":                           "u:01 u:01",
		"(join (eq #0 2) (filter (eq #0 5) (scan u)) (scan u))":        "u:01 u:01h",
		"(leftjoin 0 (filter (eq #0 5) (scan u)) (filter 0 (scan u)))": "u:0h1h u:01h",
	} {
		w := lying(t)
		if e := w.run(t, parsed(t, text), 2); e != api.OK || spelled(w.asked) != want {
			t.Errorf("%s: %s, error %d, not %s", text, spelled(w.asked), e, want)
		}
	}
}

// Of a join the rows of the side that may have fewer are held, and asked for
// first; if nothing can come of the others, they are not asked for.
func TestWhatOfAJoinIsRead(t *testing.T) {
	for text, want := range map[string]string{
		"(join 1 (scan u) (scan t))":                                       "u:01 t:0123",
		"(join 1 (scan t) (scan u))":                                       "u:01 t:0123",
		"(leftjoin 1 (scan u) (scan t))":                                   "u:01 t:0123",
		"(join 1 (scan t) (join 1 (scan u) (scan u)))":                     "t:0123 u:01 u:01",
		"(join 1 (join 1 (scan u) (scan u)) (scan t))":                     "t:0123 u:01 u:01",
		"(join 1 (union (scan u) (scan u) (scan u)) (scan t))":             "t:0123 u:01 u:01 u:01",
		"(join 1 (scan none) (scan t))":                                    "",
		"(join 1 (scan t) (scan none))":                                    "",
		"(join 1 (scan t) (filter 0 (scan u)))":                            "u:0h1h",
		"(join (eq #0 #2) (scan t) (project (null) (scan u)))":             "u:01",
		"(leftjoin 1 (scan none) (scan t))":                                "",
		"(leftjoin 1 (filter 0 (scan u)) (scan t))":                        "u:0h1h",
		"(leftjoin 1 (scan t) (scan none))":                                "t:0123",
		"(leftjoin (eq #0 #2) (scan t) (filter 0 (scan u)))":               "u:0h1h t:0123",
		"(leftjoin (eq #0 #1) (project (null) (scan u)) (scan t))":         "u:01 t:0123",
		"(join 1 (empty (int)) (join 1 (scan t) (scan t)))":                "",
		"(union (join 1 (scan u) (scan none)) (project (#0 #0) (scan u)))": "u:01",
	} {
		w := lying(t)
		if e := w.run(t, parsed(t, text), 2); e != api.OK || spelled(w.asked) != want {
			t.Errorf("%s: %s, error %d, not %s", text, spelled(w.asked), e, want)
		}
	}
}

// Head of a segment comes ahead of Read of it, and Read of it ahead of Head of
// the next one.
func TestHeadThenRead(t *testing.T) {
	w := lying(t)
	want := []ask{{"t", 0, false}, {"t", 1, false}, {"t", 1, true}, {"t", 2, false}, {"t", 3, false}, {"t", 3, true}}
	if e := w.run(t, parsed(t, "(filter (gt #0 3) (scan t))"), 1); e != api.OK || !slices.Equal(w.asked, want) {
		t.Errorf("%v, error %d, not %v", w.asked, e, want)
	}
}

// Where May refuses what is told of a segment, it is read.
func TestHeadsThatMayRefuses(t *testing.T) {
	for what, head := range map[string]api.Head{
		"none":            {},
		"rows below 0":    {Rows: -1, Low: []api.Value{num(9), null}, High: []api.Value{num(9), null}, Nulls: []int{0, 0}},
		"one Low":         {Rows: 1, Low: []api.Value{num(9)}, High: []api.Value{num(9), null}, Nulls: []int{0, 0}},
		"three of High":   {Rows: 1, Low: []api.Value{num(9), null}, High: []api.Value{num(9), null, null}, Nulls: []int{0, 0}},
		"no Nulls at all": {Rows: 1, Low: []api.Value{num(9), null}, High: []api.Value{num(9), null}},
	} {
		w := lying(t)
		w.shelves["t"].heads[0] = head
		e := w.run(t, parsed(t, "(filter (eq #0 2) (scan t))"), 2)
		if e != api.OK || spelled(w.asked) != "t:01h2h3h" || show(w.out) != `[2 "x"]` {
			t.Errorf("%s: %s, %s, error %d", what, spelled(w.asked), show(w.out), e)
		}
	}
}

// What is told of a segment decides, whatever is in it.
func TestHeadsDecide(t *testing.T) {
	w := lying(t)
	w.shelves["t"].heads[0] = api.Head{Rows: 1, Low: []api.Value{num(9), null}, High: []api.Value{num(9), null}, Nulls: []int{0, 0}}
	w.shelves["t"].heads[1] = api.Head{Low: []api.Value{null, null}, High: []api.Value{null, null}, Nulls: []int{0, 0}}
	w.shelves["t"].segments[1] = "damaged"
	e := w.run(t, parsed(t, "(filter (lt #0 8) (scan t))"), 2)
	if e != api.OK || spelled(w.asked) != "t:0h1h2h3" || show(w.out) != `[7 "x"]` {
		t.Errorf("%s, %s, error %d", spelled(w.asked), show(w.out), e)
	}
	w = lying(t)
	w.shelves["t"].heads[0] = api.Head{}
	if e := w.run(t, parsed(t, "(scan t)"), 2); e != api.OK || len(w.out) != 9 {
		t.Errorf("%d rows, error %d", len(w.out), e)
	}
}

// Of how many segments there are is asked once of each table, and of those
// alone of which the plan speaks.
func TestCounts(t *testing.T) {
	for text, want := range map[string][]string{
		"(scan u)":                                    {"u"},
		"(join 1 (scan u) (scan u))":                  {"u"},
		"(union (scan none) (scan u) (scan u))":       {"none", "u"},
		"(empty (int))":                               nil,
		"(minus (scan blank) (project (1) (scan t)))": {"blank", "t"},
	} {
		w := lying(t)
		w.run(t, parsed(t, text), 2)
		if slices.Sort(w.counted); !slices.Equal(w.counted, want) {
			t.Errorf("%s: %v, not %v", text, w.counted, want)
		}
	}
}

// faulty: a source that tells another number of segments than it has.
type faulty struct {
	*ward
	count int
}

func (f faulty) Count(string) int { return f.count }

func TestCountIsBelieved(t *testing.T) {
	for count, want := range map[int]int{-3: 0, 0: 0, 1: 1, 2: 2} {
		w := lying(t)
		e := run.Run(parsed(t, "(scan u)"), faulty{w, count}, 2, 4, w, w)
		if w.check(t, "count"); e != api.OK || len(w.out) != want {
			t.Errorf("%d: %d rows, error %d", count, len(w.out), e)
		}
	}
}

// What is told of the tables is asked once, and their rows count for nothing.
func TestTablesWithRows(t *testing.T) {
	w := lying(t)
	w.tables[1].Rows = ints(1, 2, 3)
	if e := w.run(t, parsed(t, "(scan u)"), 2); e != api.OK || show(w.out) != "[2][5]" {
		t.Errorf("%s, error %d", show(w.out), e)
	}
	w = lying(t)
	w.tables[1].Rows = [][]api.Value{{text("wrong")}, {}}
	if e := w.run(t, parsed(t, "(scan u)"), 2); e != api.OK || show(w.out) != "[2][5]" {
		t.Errorf("%s, error %d", show(w.out), e)
	}
}

// treacherous: a source that changes the plan when it is asked for a segment.
type treacherous struct {
	*ward
	plan api.Plan
}

func (s treacherous) Count(table string) int {
	spoilPlan(s.plan)
	return s.ward.Count(table)
}

func spoilPlan(p api.Plan) {
	for _, arg := range p.Args {
		spoilPlan(arg)
	}
	for _, e := range p.Exprs {
		fill(e.Args, con(text("spoiled")))
	}
	fill(p.Exprs, con(text("spoiled")))
	fill(p.Args, api.Plan{Op: -9})
	fill(p.Cols, -9)
	fill(p.Keys, api.Key{Col: -9})
	fill(p.Aggs, api.Agg{Fn: -9})
}

// What is done to the plan while it is carried out is not seen; and it is not
// changed.
func TestThePlanIsItsOwn(t *testing.T) {
	each(4, 400, func(m maker, p api.Plan) {
		want, _ := plan.Answer(p, m.tables)
		before := printed(p)
		w := newWard(t, 5, m.tables, 2)
		if w.run(t, p, 2); printed(p) != before {
			t.Fatalf("%s became %s", before, printed(p))
		}
		w = newWard(t, 5, m.tables, 2)
		if e := run.Run(p, treacherous{w, p}, 2, 5, w, w); e != api.OK || !sameRows(w.out, want) {
			t.Fatalf("%s: %s, error %d, not %s", before, show(w.out), e, show(want))
		}
	})
}
