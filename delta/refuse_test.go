package delta_test

import (
	"math"
	"slices"
	"strings"
	"testing"

	"tallyhouse/api"
	"tallyhouse/delta"
	"tallyhouse/plan"
)

// state of a view, as a text: what it shows, and its tables t and u.
func state(v *delta.View) string {
	out := show(v.Rows())
	for _, name := range []string{"t", "u"} {
		rows, _ := v.Table(name)
		out += " " + name + show(rows)
	}
	return out
}

// wantRefused: nothing is told, and nothing has changed.
func wantRefused(t *testing.T, what string, v *delta.View, l []api.Delta, want api.Errno) {
	t.Helper()
	before := state(v)
	if list, e := v.Apply(l); list != nil || e != want {
		t.Errorf("%s: Apply tells %s, error %d, not %d", what, told(list), e, want)
	}
	if after := state(v); after != before {
		t.Errorf("%s: it was %s and is %s", what, before, after)
	}
}

// nested: a plan that stands in itself.
func nested() api.Plan {
	p := api.Plan{Op: api.Distinct, Args: make([]api.Plan, 1)}
	p.Args[0] = p
	return p
}

func TestNewRefuses(t *testing.T) {
	good := table("t", "it", row(num(1), text("x")))
	short := table("t", "it", row(num(1)))
	other := table("t", "it", row(text("x"), text("x")))
	long := table("t", "it", row(num(1), text(strings.Repeat("x", api.MaxText+1))))
	scan := api.Plan{Op: api.Scan, Table: "t"}
	deep := scan
	for range api.MaxDepth {
		deep = api.Plan{Op: api.Distinct, Args: []api.Plan{deep}}
	}
	for _, c := range []struct {
		what   string
		plan   api.Plan
		tables []api.Table
		want   api.Errno
	}{
		{"a name that is none", scan, []api.Table{good, table("T", "i")}, api.ErrArg},
		{"one name twice", scan, []api.Table{good, good}, api.ErrArg},
		{"no columns", scan, []api.Table{good, table("u", "")}, api.ErrArg},
		{"a row that is too short", scan, []api.Table{short}, api.ErrArg},
		{"a value of another kind", scan, []api.Table{other}, api.ErrArg},
		{"a text that is too long", scan, []api.Table{long}, api.ErrArg},
		{"wrong rows in a table that is not asked for", scan, []api.Table{good, table("u", "i", row())}, api.ErrArg},
		{"wrong rows, and a plan that is too large", deep, []api.Table{short}, api.ErrArg},
		{"wrong rows, and no such table", api.Plan{Op: api.Scan, Table: "w"}, []api.Table{short}, api.ErrArg},
		{"too high", deep, []api.Table{good}, api.ErrLarge},
		{"in itself", nested(), []api.Table{good}, api.ErrLarge},
		{"no operator", api.Plan{}, []api.Table{good}, api.ErrArg},
		{"an operator that is none", api.Plan{Op: 13}, []api.Table{good}, api.ErrArg},
		{"needless", api.Plan{Op: api.Scan, Table: "t", N: 1}, []api.Table{good}, api.ErrArg},
		{"no such table", scan, nil, api.ErrAbsent},
		{"no such column", parsed(t, "(filter #2 (scan t))"), []api.Table{good}, api.ErrArg},
		{"a condition of texts", parsed(t, "(filter #1 (scan t))"), []api.Table{good}, api.ErrKind},
		{"a sum of texts", parsed(t, "(group () ((sum 1)) (scan t))"), []api.Table{good}, api.ErrKind},
	} {
		if v, e := delta.New(c.plan, c.tables); v != nil || e != c.want {
			t.Errorf("%s: %v, error %d, not %d", c.what, v, e, c.want)
		}
	}
}

// Whatever plan.Check says of plans that are nearly right, New says.
func TestNewRefusesAsCheckDoes(t *testing.T) {
	tables := []api.Table{table("t", "it"), table("u", "t")}
	seen := map[api.Errno]int{}
	for _, query := range append(everyPlan(), "(scan u)", "(scan w)", "(minus (scan u) (scan u))") {
		for op := range 15 {
			for n := range 3 {
				for _, arg := range append(everyPlan(), "(scan u)", "(scan w)") {
					q := parsed(t, query)
					q.Op, q.N = op, q.N+n-1
					if len(q.Args) > 0 {
						q.Args[len(q.Args)-1] = parsed(t, arg)
					}
					_, want := plan.Check(q, tables)
					v, e := delta.New(q, tables)
					if e != want || (v == nil) != (e != api.OK) {
						t.Fatalf("%v: %v, error %d, not %d", q, v, e, want)
					}
					seen[e]++
				}
			}
		}
	}
	for _, e := range []api.Errno{api.OK, api.ErrArg, api.ErrKind, api.ErrAbsent} {
		if seen[e] < 10 {
			t.Errorf("error %d was seen %d times", e, seen[e])
		}
	}
}

func TestApplyRefuses(t *testing.T) {
	v := newView(t, "(leftjoin (eq #0 #2) (scan t) (scan u))",
		table("t", "it", row(num(1), text("x")), row(num(2), null)), table("u", "i", ints(1, 1)...))
	long, longest := strings.Repeat("x", api.MaxText+1), strings.Repeat("x", api.MaxText)
	fine := in("t", comes(1, num(7), text("y")))
	absent, wrong, heavy := in("w", comes(1, num(1))), in("t", comes(1, num(1))), in("u", comes(1<<40+1, num(1)))
	for _, c := range []struct {
		what string
		l    []api.Delta
		want api.Errno
	}{
		{"no such table", []api.Delta{fine, absent}, api.ErrAbsent},
		{"no such table, and nothing of it", []api.Delta{in("w")}, api.ErrAbsent},
		{"no name", []api.Delta{in("")}, api.ErrAbsent},
		{"a row that is too short", []api.Delta{fine, wrong}, api.ErrArg},
		{"a row that is too long", []api.Delta{in("u", comes(1, num(1), num(1)))}, api.ErrArg},
		{"no row", []api.Delta{in("u", comes(1))}, api.ErrArg},
		{"a text where a number stands", []api.Delta{in("u", comes(1, text("x")))}, api.ErrArg},
		{"a number where a text stands", []api.Delta{in("t", comes(1, num(1), num(1)))}, api.ErrArg},
		{"a text that is too long", []api.Delta{in("t", comes(1, num(1), text(long)))}, api.ErrArg},
		{"a wrong row, 0 times", []api.Delta{in("u", comes(0, text("x")))}, api.ErrArg},
		{"too heavy", []api.Delta{fine, heavy}, api.ErrLarge},
		{"too heavy below 0", []api.Delta{in("u", comes(-1<<40-1, num(1)))}, api.ErrLarge},
		{"far too heavy", []api.Delta{in("u", comes(math.MaxInt64, num(1)))}, api.ErrLarge},
		{"far too heavy below 0", []api.Delta{in("u", comes(math.MinInt64, num(1)))}, api.ErrLarge},
		{"too heavy, which comes to nothing", []api.Delta{in("u", comes(1<<40+1, num(1)), comes(-1<<40-1, num(1)))}, api.ErrLarge},

		{"absent, then wrong", []api.Delta{absent, wrong}, api.ErrAbsent},
		{"wrong, then absent", []api.Delta{wrong, absent}, api.ErrArg},
		{"heavy, then wrong", []api.Delta{heavy, wrong}, api.ErrLarge},
		{"heavy, then absent", []api.Delta{heavy, absent}, api.ErrLarge},
		{"heavy, and wrong in the same delta", []api.Delta{in("u", comes(1<<40+1, num(1)), comes(1, text("x")))}, api.ErrArg},
		{"too often, then absent", []api.Delta{in("u", comes(-3, num(1))), absent}, api.ErrAbsent},
		{"too often, then heavy", []api.Delta{in("u", comes(-3, num(1))), heavy}, api.ErrLarge},

		{"a row that is not there", []api.Delta{fine, in("u", comes(-1, num(2)))}, api.ErrArg},
		{"a row of nulls that is not there", []api.Delta{in("t", comes(-1, null, null))}, api.ErrArg},
		{"once too often", []api.Delta{in("u", comes(-3, num(1)))}, api.ErrArg},
		{"once too often in all", []api.Delta{in("u", comes(-2, num(1))), fine, in("u", comes(1, num(1)), comes(-2, num(1)))}, api.ErrArg},
		{"as often as can be said", []api.Delta{in("u", comes(-1<<40, num(1)))}, api.ErrArg},
		{"too many rows", []api.Delta{in("u", comes(1<<20-1, num(5)))}, api.ErrLarge},
		{"too many rows in all", []api.Delta{in("u", comes(1<<20-2, num(5))), in("u", comes(1, num(6)))}, api.ErrLarge},
		{"as many as can be said", []api.Delta{in("u", comes(1<<40, num(5)))}, api.ErrLarge},
		{"too many in the one, too few in the other", []api.Delta{in("u", comes(1<<20, num(5))), in("t", comes(-1, num(8), null))}, api.ErrArg},
		{"too many in the one, and too few", []api.Delta{in("u", comes(1<<20, num(5)), comes(-1, num(8)))}, api.ErrArg},
	} {
		wantRefused(t, c.what, v, c.l, c.want)
	}
	list := apply(t, v, in("t", comes(1, num(1), text(longest))), in("u", comes(-2, num(1))))
	if len(list) != 3 {
		t.Errorf("behind all refusals Apply tells %s", told(list))
	}
}

// What a value does not count for makes no difference.
func TestApplyCountsCleanValues(t *testing.T) {
	long := strings.Repeat("x", api.MaxText+1)
	v := newView(t, "(group (0) ((countall 0)) (scan t))", table("t", "it", row(api.Value{Kind: api.Int, N: 1, S: long}, api.Value{Kind: 7, N: 1, S: long})))
	list := apply(t, v, in("t",
		comes(-1, num(1), null),
		comes(1, api.Value{Kind: -1, N: 5, S: long}, api.Value{Kind: api.Text, N: 8, S: "a"}),
		comes(1, api.Value{Kind: api.Null, N: 3}, api.Value{Kind: api.Text, S: "a"}),
		comes(-1, api.Value{Kind: 99, S: "q"}, text("a"))))
	if got := told(list); got != "+1[- 1]-1[1 1]" {
		t.Errorf("Apply tells %s", got)
	}
	if rows, _ := v.Table("t"); show(rows) != `[- "a"]` || rows[0][0] != null || rows[0][1] != text("a") {
		t.Errorf("Table: %v", rows)
	}
}

func TestTableRefuses(t *testing.T) {
	v := newView(t, "(scan t)", table("t", "i", ints(2, 1, 2)...))
	for _, name := range []string{"", "w", "T", "t "} {
		if rows, e := v.Table(name); rows != nil || e != api.ErrAbsent {
			t.Errorf("Table(%q): %v, error %d", name, rows, e)
		}
	}
	if rows, e := v.Table("t"); e != api.OK || show(rows) != "[1][2][2]" {
		t.Errorf("Table: %s, error %d", show(rows), e)
	}
}

// many changes of one row that come to so much.
func many(count int, row []api.Value) []api.Change {
	list := slices.Repeat([]api.Change{{Row: row}}, count)
	for i := range list {
		list[i].Weight = int64(1 - i%2*2)
	}
	return list
}

func TestTooManyChanges(t *testing.T) {
	v := newView(t, "(scan t)", table("t", "i", ints(1)...), table("u", "i"))
	half := in("t", many(1<<19, row(num(4)))...)
	idle := api.Delta{Table: "u", Changes: slices.Repeat([]api.Change{comes(0, num(1))}, 1<<19)}
	if list, e := v.Apply([]api.Delta{half, idle}); e != api.OK || len(list) != 0 {
		t.Errorf("as many as may be: %s, error %d", told(list), e)
	}
	one := in("t", comes(1, num(2)))
	wantRefused(t, "one more", v, []api.Delta{half, idle, one}, api.ErrLarge)
	wantRefused(t, "one more of nothing", v, []api.Delta{half, in("u", comes(0, null)), half}, api.ErrLarge)
	wantRefused(t, "far more", v, []api.Delta{half, half, half, one}, api.ErrLarge)
	wantRefused(t, "more, and absent", v, []api.Delta{half, idle, one, in("w")}, api.ErrAbsent)
	wantRefused(t, "more, and wrong", v, []api.Delta{half, idle, one, in("t", comes(1))}, api.ErrArg)
	wantRefused(t, "more, and too few", v, []api.Delta{half, idle, in("t", comes(-5, num(1)))}, api.ErrLarge)
	wantRefused(t, "not more, but too few", v, []api.Delta{half, in("t", comes(-5, num(1)))}, api.ErrArg)
	heavy := in("t", slices.Repeat([]api.Change{comes(1<<40, num(1))}, 1<<19)...)
	light := in("t", slices.Repeat([]api.Change{comes(-1<<40, num(1))}, 1<<19)...)
	if list, e := v.Apply([]api.Delta{heavy, light}); e != api.OK || len(list) != 0 {
		t.Errorf("up and down: %s, error %d", told(list), e)
	}
	wantRefused(t, "as much as can be said", v, []api.Delta{heavy, heavy}, api.ErrLarge)
	wantRefused(t, "as little as can be said", v, []api.Delta{light, light}, api.ErrArg)
}

func TestTooManyRows(t *testing.T) {
	v := newView(t, "(group () ((countall 0)) (union (scan t) (scan u)))", table("t", "i"), table("u", "i"))
	apply(t, v, in("t", comes(1<<20, num(1))), in("u", comes(1<<20-1, num(1)), comes(1, num(2))))
	if got := show(v.Rows()); got != "[2097152]" {
		t.Errorf("Rows: %s", got)
	}
	for _, d := range []api.Delta{in("t", comes(1, num(1))), in("t", comes(1, null)), in("t", comes(-1, num(1)), comes(2, num(2)))} {
		if list, e := v.Apply([]api.Delta{d}); list != nil || e != api.ErrLarge {
			t.Errorf("Apply of %v: %v, error %d", d, list, e)
		}
	}
	if got := told(apply(t, v, in("t", comes(-1, num(1)), comes(1, num(2))))); got != "" {
		t.Errorf("one for another: %s", got)
	}
	if got := told(apply(t, v, in("t", comes(-2, num(1))))); got != "+1[2097150]-1[2097152]" {
		t.Errorf("Apply tells %s", got)
	}
}

// A view may begin with more rows than a change may lead to.
func TestATableThatIsTooLargeFromTheBeginning(t *testing.T) {
	v := newView(t, "(group () ((countall 0)) (scan t))", table("t", "i", slices.Repeat(ints(3), 1<<20+2)...), table("u", "i"))
	if got := show(v.Rows()); got != "[1048578]" {
		t.Errorf("Rows: %s", got)
	}
	for _, l := range [][]api.Delta{nil, {in("t")}, {in("u", comes(1, num(1)))}, {in("t", comes(-1, num(3)))}, {in("t", comes(1, num(3)))}} {
		if list, e := v.Apply(l); list != nil || e != api.ErrLarge {
			t.Errorf("Apply of %v: %v, error %d", l, list, e)
		}
	}
	if got := told(apply(t, v, in("t", comes(-2, num(3))), in("u", comes(1, num(1))))); got != "+1[1048576]-1[1048578]" {
		t.Errorf("Apply tells %s", got)
	}
}
