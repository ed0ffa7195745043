package tally_test

import (
	"strings"
	"testing"

	"tallyhouse/api"
	"tallyhouse/tally"
)

// stocked: a machine with a table of many rows, one of few and one of one, and a
// view of pairs of rows that have nothing to do with one another.
func stocked(t *testing.T) *tally.Machine {
	t.Helper()
	m := small(t)
	do(t, m, "(make many ((a int) (b int)))", "(make few ((a int)))", "(make one ((a int)))")
	for i := range 20 {
		n := num(int64(i))
		do(t, m, "(add many "+listed(rowsOf(row(n, n), row(n, num(0))))+")")
	}
	do(t, m, "(add few (1) (2) (3) (4))", "(add one (3))", "(view pairs (join 1 (scan many) (scan few)))")
	return m
}

func TestExplain(t *testing.T) {
	m := stocked(t)
	for _, c := range []struct {
		plan, text string
		costs      int
	}{
		{"(scan many)", "(scan many)", 40},
		{"(empty (int))", "(empty (int))", 0},
		{"( filter(eq #0 3)(scan  few) )", "(filter (eq #0 3) (scan few))", 8},
		{"(scan pairs)", "(join 1 (scan many) (scan few))", 40 + 4 + 160 + 160},
		{"(distinct (scan few))", "(distinct (scan few))", 4 + 4*3 + 2},
	} {
		want(t, m, "(explain "+c.plan+")", api.Result{Count: c.costs, Text: c.text})
	}
}

// Joins are put together anew where that is cheaper, also those within views; it
// is told of tables alone, and hangs on what they hold now.
func TestExplainTellsACheaperPlan(t *testing.T) {
	m := stocked(t)
	const query = "(join (and (eq #0 #3) (eq #2 #3)) (scan pairs) (scan one))"
	const asIs = "(join (and (eq #0 #3) (eq #2 #3)) (join 1 (scan many) (scan few)) (scan one))"
	r := m.Do("(explain " + query + ")")
	if r.Err != api.OK || r.Text == asIs || strings.Contains(r.Text, "pairs") {
		t.Fatalf("explain: %s", told(r))
	}
	asked := shown(kindsOf("iiii"), row(num(3), num(0), num(3), num(3)), row(num(3), num(3), num(3), num(3)))
	want(t, m, "(ask "+query+")", asked)
	want(t, m, "(ask "+asIs+")", asked)
	want(t, m, "(ask "+r.Text+")", asked)
	again := m.Do("(explain " + r.Text + ")")
	if again.Count > r.Count || r.Count >= m.Do("(explain (scan pairs))").Count {
		t.Errorf("it costs %d, and then %d", r.Count, again.Count)
	}
	do(t, m, "(take one (3))", "(take few (1) (2) (3) (4))")
	if less := m.Do("(explain " + query + ")"); less.Count >= r.Count {
		t.Errorf("it costs %d with fewer rows, and %d with more", less.Count, r.Count)
	}
}

// The knobs and how the rows lie make no difference to the costs.
func TestExplainHangsOnRowsAlone(t *testing.T) {
	lines := []string{"(make t ((a int) (b text)))", `(add t (1 "x") (2 "y"))`, `(add t (1 "x") (null null))`, `(take t (2 "y"))`, `(add t (7 "x") (8 "y") (9 "z"))`}
	const query = "(explain (group (1) ((sum 0)) (join (eq #0 #2) (scan t) (filter (gt #0 1) (scan t)))))"
	var wanted api.Result
	for i, m := range machines(t) {
		do(t, m.Machine, lines...)
		if i == 0 {
			wanted = m.Do(query)
		}
		want(t, m.Machine, query, wanted)
		do(t, m.Machine, "(merge t)")
		want(t, m.Machine, query, wanted)
	}
}
