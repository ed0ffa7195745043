package delta_test

import (
	"math/rand"
	"slices"
	"testing"

	"tallyhouse/api"
	"tallyhouse/delta"
)

// Views of tables with thousands of rows, changed by a few and by many at a time.
func TestViewsOfManyRows(t *testing.T) {
	for _, query := range []string{
		"(top () 5 0 (scan t))",
		"(top ((desc 0)) 700 900 (scan t))",
		"(top (1) 9223372036854775807 1500 (scan t))",
		"(top (1) 1200 9223372036854775807 (scan t))",
		"(top ((desc 1)) 9223372036854775807 9223372036854775807 (scan t))",
		"(top ((desc 1)) 9223372036854775807 0 (scan t))",
		"(group () ((least 0) (most 0) (counteach 0) (sum 0)) (scan t))",
		"(group (1) ((least 0) (most 0) (counteach 0) (countall 0)) (scan t))",
		"(window number 0 0 () ((desc 0)) (scan t))",
		"(window sumover 0 3 (1) (0) (scan t))",
		"(distinct (project (#1) (scan t)))",
		"(join (eq #0 #2) (scan t) (filter (lt #1 3) (scan t)))",
		"(leftjoin (eq #0 #2) (scan t) (filter (lt #1 3) (scan t)))",
	} {
		changeMany(t, parsed(t, query))
	}
}

func changeMany(t *testing.T, p api.Plan) {
	t.Helper()
	r := rand.New(rand.NewSource(6))
	any := func() []api.Value { return row(num(r.Int63n(3000)), num(r.Int63n(10))) }
	now := []api.Table{table("t", "ii")}
	for range 2000 {
		now[0].Rows = append(now[0].Rows, any())
	}
	v, e := delta.New(p, now)
	if e != api.OK {
		t.Fatalf("New of %s: error %d", printed(p), e)
	}
	for _, count := range []int{1, 1, 2, 1, 3, 40, 1, 1500, 1, 5, 2, 3000, 1, 1} {
		rows := slices.Clone(now[0].Rows)
		for range count {
			if r.Intn(2) == 0 && len(rows) > 0 {
				k := r.Intn(len(rows))
				rows[k] = rows[len(rows)-1]
				rows = rows[:len(rows)-1]
				continue
			}
			one := any()
			for range 1 + r.Intn(2)*r.Intn(8) {
				rows = append(rows, one)
			}
		}
		behind := []api.Table{table("t", "ii", rows...)}
		want := changed(answer(t, p, now), answer(t, p, behind))
		if got := apply(t, v, in("t", changed(now[0].Rows, rows)...)); !sameChanges(got, want) {
			t.Fatalf("%s: of %d changes Apply tells otherwise", printed(p), count)
		}
		now = behind
		if !sameRows(v.Rows(), answer(t, p, now)) {
			t.Fatalf("%s: behind %d changes Rows are others", printed(p), count)
		}
	}
}

// A row that comes very often is one entry, wherever it goes.
func TestARowThatIsThereVeryOften(t *testing.T) {
	const times = 1 << 20
	for _, c := range []struct{ query, told string }{
		{"(group () ((countall 0) (sum 0)) (scan t))", "-1[0 -]+1[1048576 5242880]"},
		{"(distinct (scan t))", "+1[5]"},
		{"(group () ((countall 0)) (join (eq #0 #1) (scan t) (top () 2000 3 (scan t))))", "-1[0]+1[2097152000]"},
		{"(group (0) ((countall 0)) (leftjoin (ne #0 #1) (scan t) (scan t)))", "+1[5 1048576]"},
		{"(top () 3 1048574 (scan t))", "+2[5]"},
		{"(minus (scan t) (scan t))", ""},
		{"(union (scan t) (scan t) (scan t))", "+3145728[5]"},
	} {
		v := newView(t, c.query, table("t", "i"))
		if got := told(apply(t, v, in("t", comes(times, num(5))))); got != c.told {
			t.Errorf("%s: Apply tells %s, not %s", c.query, got, c.told)
		}
	}
}

// When one side of a join shrinks while the other one grows, the pairs that
// there neither were nor are must not be gone through: here they are 2^34.
func TestOneSideShrinksWhileTheOtherGrows(t *testing.T) {
	const count = 1 << 17
	var come, leave []api.Change
	for _, row := range upTo(count)[1:] {
		come = append(come, api.Change{Row: row, Weight: 1})
		leave = append(leave, api.Change{Row: row, Weight: -1})
	}
	for _, query := range []string{
		"(group () ((countall 0) (sum 0) (sum 1)) (join (le #0 (add #1 1000000)) (scan t) (scan u)))",
		"(group () ((countall 0) (sum 0) (sum 1)) (leftjoin (le #0 (add #1 1000000)) (scan t) (scan u)))",
	} {
		v := newView(t, query, table("t", "i", upTo(count)...), table("u", "i", upTo(1)...))
		sum := int64(count) * (count - 1) / 2
		if got, want := show(v.Rows()), show([][]api.Value{row(num(count), num(sum), num(0))}); got != want {
			t.Errorf("%s: Rows %s, not %s", query, got, want)
		}
		apply(t, v, in("t", leave...), in("u", come...))
		if got, want := show(v.Rows()), show([][]api.Value{row(num(count), num(0), num(sum))}); got != want {
			t.Errorf("%s: Rows %s, not %s", query, got, want)
		}
		apply(t, v, in("t", come...), in("u", leave...))
		if got, want := show(v.Rows()), show([][]api.Value{row(num(count), num(sum), num(0))}); got != want {
			t.Errorf("%s: Rows %s, not %s", query, got, want)
		}
	}
}

// A few changes of a large table are told without going through all of it.
func TestManySmallChangesOfALargeTable(t *testing.T) {
	const count = 1 << 17
	for _, query := range []string{
		"(filter (gt #0 1000) (scan t))",
		"(distinct (scan t))",
		"(group () ((least 0) (most 0) (counteach 0) (sum 0)) (scan t))",
		"(top ((desc 0)) 100000 1000 (scan t))",
		"(join (eq #0 #1) (scan t) (scan t))",
		"(leftjoin (eq #0 #1) (scan t) (scan t))",
		"(minus (scan t) (filter (gt #0 1000) (scan t)))",
		"(window ahead 0 1 (0) () (scan t))",
	} {
		v := newView(t, query, table("t", "i", upTo(count)...))
		before := len(v.Rows())
		for i := range int64(5000) {
			apply(t, v, in("t", comes(-1, num(i)), comes(1, num(i+count))))
		}
		for i := range int64(5000) {
			apply(t, v, in("t", comes(1, num(i)), comes(-1, num(i+count))))
		}
		if after := len(v.Rows()); after != before {
			t.Errorf("%s: %d rows, not %d", query, after, before)
		}
	}
}
