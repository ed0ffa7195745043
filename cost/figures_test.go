package cost_test

import (
	"math"
	"testing"

	"tallyhouse/api"
)

const top60 = 1 << 60

// someStats: of w there are none, of x no rows, of v a column without values.
func someStats() []api.Stat {
	return []api.Stat{
		{Table: "t", Rows: 1000, Each: []int{50, 7}, Nulls: []int{0, 0}},
		{Table: "u", Rows: 10, Each: []int{10}, Nulls: []int{0}},
		{Table: "v", Rows: 60, Each: []int{60, 0, 20}, Nulls: []int{0, 60, 0}},
		{Table: "x", Each: []int{0}, Nulls: []int{0}},
	}
}

// figures of plans, as texts.
type figures struct {
	text       string
	rows, cost int
}

func have(t *testing.T, stats []api.Stat, list []figures) {
	t.Helper()
	for _, want := range list {
		rows, cost := reckoned(t, parsed(t, want.text), someTables(), stats)
		if rows != want.rows || cost != want.cost {
			t.Errorf("%s: %d rows, cost %d, not %d and %d", want.text, rows, cost, want.rows, want.cost)
		}
	}
}

func TestScansAndEmpty(t *testing.T) {
	have(t, someStats(), []figures{
		{"(scan t)", 1000, 1000},
		{"(scan u)", 10, 10},
		{"(scan w)", 1000, 1000},
		{"(scan x)", 0, 0},
		{"(empty (int text))", 0, 0},
		{"(filter (eq #0 1) (empty (int)))", 0, 0},
	})
}

func TestFilters(t *testing.T) {
	have(t, someStats(), []figures{
		{"(filter (eq #0 7) (scan t))", 20, 2000},
		{"(filter (eq 7 #1) (scan t))", 143, 2000},
		{"(filter (eq #0 null) (scan t))", 20, 2000},
		{"(filter (eq #0 #1) (scan t))", 20, 2000},
		{"(filter (eq #1 #0) (scan t))", 20, 2000},
		{"(filter (eq #1 #1) (scan t))", 143, 2000},
		{"(filter (eq #0 7) (scan w))", 10, 2000},
		{"(filter (eq #2 7) (scan w))", 10, 2000},
		{"(filter (ne #0 7) (scan t))", 334, 2000},
		{"(filter (lt #0 7) (scan t))", 334, 2000},
		{"(filter (le 1 2) (scan t))", 334, 2000},
		{"(filter (gt #0 #1) (scan t))", 334, 2000},
		{"(filter (ge (neg #0) 7) (scan t))", 334, 2000},
		{"(filter 1 (scan t))", 1000, 2000},
		{"(filter -3 (scan t))", 1000, 2000},
		{"(filter 0 (scan t))", 0, 2000},
		{"(filter null (scan t))", 0, 2000},
		{"(filter #0 (scan t))", 500, 2000},
		{"(filter (eq 1 1) (scan t))", 500, 2000},
		{"(filter (eq (neg #0) 7) (scan t))", 500, 2000},
		{"(filter (eq #0 (neg 7)) (scan t))", 500, 2000},
		{"(filter (eq 7 (add #0 1)) (scan t))", 500, 2000},
		{"(filter (isnull #0) (scan t))", 500, 2000},
		{"(filter (not (eq #0 7)) (scan t))", 500, 2000},
		{"(filter (or (eq #0 7) 0) (scan t))", 500, 2000},
		{"(filter (add #0 1) (scan u))", 5, 20},
		{"(filter (if 1 0 0) (scan u))", 5, 20},
		{"(filter (eq (cat #1 #2) \"a\") (scan v))", 30, 120},
	})
}

func TestPartsOfConditions(t *testing.T) {
	have(t, someStats(), []figures{
		{"(filter (and (gt #0 7) (isnull #0)) (scan t))", 167, 2000},
		{"(filter (and (eq #0 1) (and (gt #1 2) (isnull #0))) (scan t))", 4, 2000},
		{"(filter (and (and 1 #0) (and 2 #1)) (scan t))", 250, 2000},
		{"(filter (and #0 (and 0 #1)) (scan t))", 0, 2000},
		{"(filter (and #0 null) (scan t))", 0, 2000},
		// What one part leaves over does not change what the next one knows.
		{"(filter (and (eq #0 1) (eq #0 2)) (scan t))", 1, 2000},
		{"(filter (and (eq #1 1) (eq #1 2)) (scan t))", 21, 2000},
	})
}

func TestJoins(t *testing.T) {
	have(t, someStats(), []figures{
		{"(join (eq #0 #2) (scan t) (scan u))", 200, 1010 + 1010 + 200},
		{"(join (eq #2 #0) (scan t) (scan u))", 200, 1010 + 1010 + 200},
		{"(join (eq #0 #1) (scan u) (scan t))", 200, 1010 + 1010 + 200},
		{"(join (eq #0 #1) (scan t) (scan u))", 200, 1010 + 10000 + 200},
		{"(join (eq #1 #2) (scan u) (scan t))", 200, 1010 + 10000 + 200},
		{"(join (eq #2 #2) (scan t) (scan u))", 1000, 1010 + 10000 + 1000},
		{"(join (and (gt #0 #2) (eq #1 #2)) (scan t) (scan u))", 334, 1010 + 1010 + 334},
		{"(join (and (eq #1 #2) (gt #0 #2)) (scan t) (scan u))", 334, 1010 + 1010 + 334},
		{"(join (eq #0 3) (scan t) (scan u))", 200, 1010 + 10000 + 200},
		{"(join (or (eq #0 #2) 0) (scan t) (scan u))", 5000, 1010 + 10000 + 5000},
		{"(join (eq (neg #0) #2) (scan t) (scan u))", 5000, 1010 + 10000 + 5000},
		{"(join (lt #0 #2) (scan t) (scan u))", 3334, 1010 + 10000 + 3334},
		{"(join 1 (scan t) (scan u))", 10000, 1010 + 10000 + 10000},
		{"(join 0 (scan t) (scan u))", 0, 1010 + 10000},
		{"(join (eq #0 #2) (scan t) (scan u))", 200, 1010 + 1010 + 200},
		{"(join (eq #0 #1) (scan x) (scan x))", 0, 0},
		{"(leftjoin (eq #0 #2) (scan t) (scan u))", 1000, 1010 + 1010 + 1000},
		{"(leftjoin (eq #0 #1) (scan t) (scan u))", 1000, 1010 + 10000 + 1000},
		{"(leftjoin (eq #0 #1) (scan u) (scan t))", 200, 1010 + 1010 + 200},
		{"(leftjoin 1 (scan u) (scan t))", 10000, 1010 + 10000 + 10000},
		{"(leftjoin 0 (scan u) (scan t))", 10, 1010 + 10000 + 10},
	})
}

func TestOthers(t *testing.T) {
	have(t, someStats(), []figures{
		{"(project (#0) (scan t))", 1000, 2000},
		{"(group () ((countall 0)) (scan t))", 1, 1000 + 10000 + 1},
		{"(group () ((countall 0)) (scan x))", 1, 1},
		{"(group (1) () (scan t))", 7, 1000 + 10000 + 7},
		{"(group (0 1) () (scan t))", 350, 1000 + 10000 + 350},
		{"(group (0 1) () (scan w))", 1000, 1000 + 10000 + 1000},
		{"(group (0) () (scan x))", 0, 0},
		{"(distinct (scan u))", 5, 10 + 40 + 5},
		{"(distinct (distinct (scan u)))", 3, 55 + 15 + 3},
		{"(union (scan t))", 1000, 2000},
		{"(union (scan t) (scan t) (scan t))", 3000, 6000},
		{"(top () 3 0 (scan t))", 3, 1000 + 10000 + 3},
		{"(top () 3 900000 (scan t))", 3, 1000 + 10000 + 3},
		{"(top ((desc 0)) 5000 7 (scan t))", 1000, 1000 + 10000 + 1000},
		{"(top () 0 0 (scan t))", 0, 1000 + 10000},
		{"(top () 9223372036854775807 0 (scan u))", 10, 10 + 40 + 10},
		{"(window number 0 0 () () (scan t))", 1000, 1000 + 10000 + 1000},
		{"(window sumover 0 -1 () () (scan u))", 10, 10 + 40 + 10},
		{"(minus (scan t) (scan t))", 1000, 2000 + 20000 + 1000},
		{"(minus (scan u) (project (#0) (scan t)))", 10, 2010 + 40 + 10000 + 10},
		{"(minus (project (#0) (scan t)) (scan u))", 1000, 2010 + 40 + 10000 + 1000},
	})
}

// unlike: of a column how many unlike values are reckoned with, told by how many
// rows an Eq leaves over.
func TestUnlikeValuesOfColumns(t *testing.T) {
	for _, c := range []struct {
		p    string
		eq   string
		rows int
	}{
		{"(scan v)", `(eq #1 "a")`, 60},
		{"(scan v)", "(eq #0 1)", 1},
		{"(scan v)", `(eq #2 "a")`, 3},
		{"(filter (eq #0 1) (scan t))", "(eq #0 1)", 1},
		{"(filter (eq #0 1) (scan t))", "(eq #1 1)", 3},
		{"(filter 0 (scan t))", "(eq #1 1)", 0},
		{"(project ((add #0 1) #1 #0) (scan t))", "(eq #0 1)", 1},
		{"(project ((add #0 1) #1 #0) (scan t))", "(eq #1 1)", 143},
		{"(project ((add #0 1) #1 #0) (scan t))", "(eq #2 1)", 20},
		{"(project (1) (scan t))", "(eq #0 1)", 1},
		{"(join (lt #0 #2) (scan t) (scan u))", "(eq #0 1)", 67},
		{"(join (lt #0 #2) (scan t) (scan u))", "(eq #1 1)", 477},
		{"(join (lt #0 #2) (scan t) (scan u))", "(eq #2 1)", 334},
		{"(join (eq #0 #1) (scan u) (join (eq #0 #2) (scan t) (scan u)))", "(eq #3 1)", 4},
		{"(leftjoin (eq #0 #2) (scan t) (scan u))", "(eq #1 1)", 143},
		{"(leftjoin (eq #0 #2) (scan t) (scan u))", "(eq #2 1)", 100},
		{"(group (1 0) ((countall 0) (least 1)) (scan t))", "(eq #0 1)", 50},
		{"(group (1 0) ((countall 0) (least 1)) (scan t))", "(eq #1 1)", 7},
		{"(group (1 0) ((countall 0) (least 1)) (scan t))", "(eq #2 1)", 1},
		{"(group (1 0) ((countall 0) (least 1)) (scan t))", "(eq #3 1)", 1},
		{"(group () ((countall 0)) (scan x))", "(eq #0 1)", 1},
		{"(distinct (scan t))", "(eq #1 1)", 72},
		{"(distinct (scan u))", "(eq #0 1)", 1},
		{"(union (scan t))", "(eq #1 1)", 1},
		{"(union (scan t) (scan t))", "(eq #0 1)", 1},
		{"(top () 70 0 (scan t))", "(eq #1 1)", 10},
		{"(top () 70 0 (scan t))", "(eq #0 1)", 2},
		{"(top () 5 0 (scan t))", "(eq #0 1)", 1},
		{"(window ahead 1 2 () () (scan t))", "(eq #0 1)", 20},
		{"(window ahead 1 2 () () (scan t))", "(eq #1 1)", 143},
		{"(window ahead 1 2 () () (scan t))", "(eq #2 1)", 1},
		{"(minus (scan t) (empty (int int)))", "(eq #1 1)", 143},
		{"(minus (empty (int int)) (scan t))", "(eq #1 1)", 0},
	} {
		text := "(filter " + c.eq + " " + c.p + ")"
		if rows, _ := reckoned(t, parsed(t, text), someTables(), someStats()); rows != c.rows {
			t.Errorf("%s: %d rows, not %d", text, rows, c.rows)
		}
	}
}

func TestBitsOfNumbers(t *testing.T) {
	for rows, bits := range map[int]int{0: 1, 1: 1, 2: 2, 3: 2, 4: 3, 1023: 10, 1024: 11, 1 << 40: 41} {
		stats := []api.Stat{{Table: "u", Rows: rows, Each: []int{1}}}
		have(t, stats, []figures{{"(top () 0 0 (scan u))", 0, rows + rows*bits}})
	}
}

func TestGreatNumbers(t *testing.T) {
	of := func(rows, each int) []api.Stat {
		return []api.Stat{{Table: "u", Rows: rows, Each: []int{each}}}
	}
	for _, rows := range []int{top60, top60 + 1, math.MaxInt} {
		have(t, of(rows, math.MaxInt), []figures{
			{"(scan u)", top60, top60},
			{"(filter 1 (scan u))", top60, top60},
			{"(filter (eq #0 1) (scan u))", 1, top60},
			{"(filter #0 (scan u))", top60 / 2, top60},
			{"(union (scan u) (scan u))", top60, top60},
			{"(join 1 (scan u) (scan u))", top60, top60},
			{"(join 0 (scan u) (scan u))", 0, top60},
			{"(join (eq #0 #1) (scan u) (scan u))", 1, top60},
			{"(join (lt #0 3) (scan u) (scan x))", (top60 + 2) / 3, top60},
			{"(leftjoin 0 (scan u) (scan u))", top60, top60},
			{"(group (0 1) () (join 1 (scan u) (scan u)))", top60, top60},
			{"(top () 9223372036854775807 0 (scan u))", top60, top60},
			{"(distinct (scan u))", top60 / 2, top60},
			{"(minus (scan u) (scan u))", top60, top60},
		})
	}
	have(t, of(1<<30, 5), []figures{{"(join #0 (scan u) (scan u))", top60 / 2, top60}, {"(join (eq #0 #1) (scan u) (scan u))", (top60 + 4) / 5, 4<<30 + (top60+4)/5}})
	have(t, of(1<<30-1, 5), []figures{{"(join 1 (scan u) (scan u))", (1<<30 - 1) * (1<<30 - 1), top60}})
	thirds := append(of(3, 5), api.Stat{Table: "x", Rows: top60 / 3, Each: []int{1}})
	have(t, thirds, []figures{{"(join 1 (scan u) (scan x))", top60 - 1, top60}, {"(join 1 (scan x) (scan u))", top60 - 1, top60}})
	have(t, of(1<<59, 1), []figures{{"(union (scan u) (scan u))", top60, top60}, {"(scan u)", top60 / 2, top60 / 2}, {"(filter (eq #0 1) (scan u))", top60 / 2, top60}})
	have(t, of(1<<59-1, 1), []figures{{"(union (scan u) (scan u))", top60 - 2, top60}, {"(filter 0 (scan u))", 0, top60 - 2}})
	for _, rows := range []int{-1, math.MinInt} {
		have(t, of(rows, rows), []figures{{"(scan u)", 0, 0}, {"(filter (eq #0 1) (scan u))", 0, 0}})
		have(t, of(9, rows), []figures{{"(filter (eq #0 1) (scan u))", 9, 18}})
	}
}

// TestWhichStatSpeaks: the first one of a name, if it has a number for each
// column.
func TestWhichStatSpeaks(t *testing.T) {
	stat := func(name string, rows int, each ...int) api.Stat {
		return api.Stat{Table: name, Rows: rows, Each: each}
	}
	for what, c := range map[string]struct {
		stats []api.Stat
		rows  int
		left  int
	}{
		"none":                        {nil, 1000, 10},
		"one of another table":        {[]api.Stat{stat("u", 5, 5, 5), stat("T", 5, 5, 5)}, 1000, 10},
		"the first one":               {[]api.Stat{stat("u", 5, 5), stat("t", 6, 3, 2), stat("t", 8, 1, 8)}, 6, 2},
		"too few numbers":             {[]api.Stat{stat("t", 6, 3)}, 1000, 10},
		"too many numbers":            {[]api.Stat{stat("t", 6, 3, 2, 1)}, 1000, 10},
		"no numbers":                  {[]api.Stat{stat("t", 6)}, 1000, 10},
		"the first one has too few":   {[]api.Stat{stat("t", 6, 3), stat("t", 8, 1, 8)}, 1000, 10},
		"the first one has too many":  {[]api.Stat{stat("t", 6, 3, 2, 1), stat("t", 8, 1, 8)}, 1000, 10},
		"Nulls of another length":     {[]api.Stat{{Table: "t", Rows: 6, Each: []int{3, 2}, Nulls: []int{1, 2, 3}}}, 6, 2},
		"Nulls that are more than it": {[]api.Stat{{Table: "t", Rows: 6, Each: []int{3, 2}, Nulls: []int{900, -1}}}, 6, 2},
	} {
		rows, _ := reckoned(t, scan("t"), someTables(), c.stats)
		left, _ := reckoned(t, filter(of(api.Eq, col(0), num(1)), scan("t")), someTables(), c.stats)
		if rows != c.rows || left != c.left {
			t.Errorf("%s: %d rows, of which %d are left over, not %d and %d", what, rows, left, c.rows, c.left)
		}
	}
}

// TestRowsOfTablesAreNotLookedAt: not even if they fit no column.
func TestRowsOfTablesAreNotLookedAt(t *testing.T) {
	tables := someTables()
	for i := range tables {
		tables[i].Rows = [][]api.Value{nil, {s("a"), n(1), n(2), n(3), n(4)}}
	}
	p := parsed(t, "(join (eq #0 #2) (scan t) (scan u))")
	if rows, cost := reckoned(t, p, tables, someStats()); rows != 200 || cost != 2220 {
		t.Errorf("%d rows, cost %d", rows, cost)
	}
	best(t, p, tables, someStats())
}
