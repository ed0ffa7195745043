package tally_test

import (
	"math"
	"strings"
	"testing"

	"tallyhouse/api"
	"tallyhouse/tally"
)

func TestNew(t *testing.T) {
	for _, c := range []struct {
		segment, batch, budget int
		want                   api.Errno
	}{
		{1, 1, api.MinBudget, api.OK},
		{api.MaxRows, api.MaxBatch, api.MaxBudget, api.OK},
		{0, 1, 4, api.ErrArg},
		{-1, 1, 4, api.ErrArg},
		{api.MaxRows + 1, 1, 4, api.ErrArg},
		{1, 0, 4, api.ErrArg},
		{1, api.MaxBatch + 1, 4, api.ErrArg},
		{1, 1, api.MinBudget - 1, api.ErrArg},
		{1, 1, api.MaxBudget + 1, api.ErrArg},
		{math.MaxInt, math.MaxInt, math.MaxInt, api.ErrArg},
		{math.MinInt, math.MinInt, math.MinInt, api.ErrArg},
	} {
		m, e := tally.New(c.segment, c.batch, c.budget)
		if e != c.want || (m == nil) != (e != api.OK) {
			t.Errorf("New(%d, %d, %d): %v, error %d", c.segment, c.batch, c.budget, m, e)
		}
	}
}

// The document's own session.
func TestExample(t *testing.T) {
	m := small(t)
	ints := kindsOf("i")
	want(t, m, "(make t ((a int)))", api.Result{})
	want(t, m, "(view v (filter (gt #0 1) (scan t)))", api.Result{Kinds: ints})
	want(t, m, "(add t (1) (5))", api.Result{Count: 2})
	want(t, m, "(show v)", shown(ints, row(num(5))))
	wantRefused(t, m, "(drop t)", api.ErrUsed)
	wantRefused(t, m, "(take t (9))", api.ErrArg)
	want(t, m, "(ask (union (scan v) (scan t)))", shown(ints, row(num(1)), row(num(5)), row(num(5))))
}

func TestMakeAndShow(t *testing.T) {
	m := small(t)
	want(t, m, "(show t)", api.Result{Err: api.ErrAbsent})
	want(t, m, "(make t ((a int) (b text) (int text)))", api.Result{})
	want(t, m, "(show t)", shown(kindsOf("itt")))
	want(t, m, "(make make ((make int)))", api.Result{})
	want(t, m, "(add make (1))", api.Result{Count: 1})
	want(t, m, "(show make)", shown(kindsOf("i"), row(num(1))))
	want(t, m, "(show t)", shown(kindsOf("itt")))
}

func TestAddAndTake(t *testing.T) {
	m := small(t)
	do(t, m, "(make t ((a int) (b text)))")
	kinds := kindsOf("it")
	want(t, m, `(add t (3 "c") (1 "a") (2 null) (1 "a") (null null) (null "") (-9223372036854775808 "\00\22"))`, api.Result{Count: 7})
	want(t, m, "(show t)", shown(kinds, row(null, null), row(null, text("")), row(num(math.MinInt64), text("\x00\"")),
		row(num(1), text("a")), row(num(1), text("a")), row(num(2), null), row(num(3), text("c"))))
	want(t, m, `(take t (1 "a") (null null))`, api.Result{Count: 2})
	want(t, m, `(take t (null null))`, api.Result{Err: api.ErrArg})
	want(t, m, `(take t (1 "a") (1 "a"))`, api.Result{Err: api.ErrArg})
	want(t, m, `(take t (3 "c") (2 null) (1 "b"))`, api.Result{Err: api.ErrArg})
	want(t, m, "(show t)", shown(kinds, row(null, text("")), row(num(math.MinInt64), text("\x00\"")),
		row(num(1), text("a")), row(num(2), null), row(num(3), text("c"))))
	want(t, m, "(add t)", api.Result{})
	want(t, m, "(take t)", api.Result{})
	want(t, m, `(take t (3 "c") (null "") (2 null) (1 "a") (-9223372036854775808 "\00\22"))`, api.Result{Count: 5})
	want(t, m, "(show t)", shown(kinds))
	want(t, m, "(take t (2 null))", api.Result{Err: api.ErrArg})
}

func TestViewsFollowTheirTables(t *testing.T) {
	m := small(t)
	do(t, m, "(make t ((a int) (b text)))", "(make u ((a int)))", `(add t (1 "x") (2 "y"))`)
	want(t, m, "(view v (project (#1) (filter (gt #0 1) (scan t))))", api.Result{Count: 1, Kinds: kindsOf("t")})
	want(t, m, "(view w (join (eq #0 #2) (scan t) (scan u)))", api.Result{Kinds: kindsOf("iti")})
	want(t, m, "(view c (group () ((countall 0)) (scan w)))", api.Result{Count: 1, Kinds: kindsOf("i")})
	want(t, m, "(view e (empty (text int)))", api.Result{Kinds: kindsOf("ti")})
	do(t, m, `(add t (2 "z"))`, "(add u (2) (1))")
	want(t, m, "(show v)", shown(kindsOf("t"), row(text("y")), row(text("z"))))
	want(t, m, "(show w)", shown(kindsOf("iti"), row(num(1), text("x"), num(1)), row(num(2), text("y"), num(2)), row(num(2), text("z"), num(2))))
	want(t, m, "(show c)", shown(kindsOf("i"), row(num(3))))
	want(t, m, "(show e)", shown(kindsOf("ti")))
	do(t, m, `(take t (2 "y"))`, "(take u (1))", "(merge t)")
	want(t, m, "(show v)", shown(kindsOf("t"), row(text("z"))))
	want(t, m, "(show w)", shown(kindsOf("iti"), row(num(2), text("z"), num(2))))
	want(t, m, "(show c)", shown(kindsOf("i"), row(num(1))))
}

// What has been dropped is gone, and its name may be taken by another one.
func TestDrop(t *testing.T) {
	m := small(t)
	do(t, m, "(make t ((a int)))", "(add t (1))", "(view v (scan t))", "(view w (union (scan v) (scan v)))")
	for _, name := range []string{"t", "v"} {
		wantRefused(t, m, "(drop "+name+")", api.ErrUsed)
	}
	do(t, m, "(drop w)")
	want(t, m, "(show w)", api.Result{Err: api.ErrAbsent})
	wantRefused(t, m, "(drop w)", api.ErrAbsent)
	wantRefused(t, m, "(drop t)", api.ErrUsed)
	do(t, m, "(drop v)", "(drop t)")
	want(t, m, "(show t)", api.Result{Err: api.ErrAbsent})
	do(t, m, "(make v ((b text)))", `(add v ("q"))`, "(view t (scan v))")
	want(t, m, "(show t)", shown(kindsOf("t"), row(text("q"))))
	if stats := m.Stats(); len(stats) != 1 || stat(stats[0]) != "v 1 1/0" {
		t.Errorf("Stats: %v", stats)
	}
}

// A view that was written over another one is none of what that one is over.
func TestDropHangsOnPlansAsTheyWereWritten(t *testing.T) {
	m := small(t)
	do(t, m, "(make t ((a int)))", "(make u ((a int)))", "(view v (scan t))", "(view w (minus (scan v) (scan u)))")
	for name, why := range map[string]api.Errno{"t": api.ErrUsed, "u": api.ErrUsed, "v": api.ErrUsed, "x": api.ErrAbsent} {
		wantRefused(t, m, "(drop "+name+")", why)
	}
	do(t, m, "(drop w)", "(drop u)", "(drop v)", "(drop t)")
	if len(m.Stats()) != 0 {
		t.Error("a table is left")
	}
}

func TestMergeTellsHowManySegments(t *testing.T) {
	for _, segment := range []int{1, 2, 3, 7, api.MaxRows} {
		m := machine(t, segment, 3, 5)
		do(t, m, "(make t ((a int)))")
		want(t, m, "(merge t)", api.Result{})
		count := 0
		for k := range 9 {
			do(t, m, "(add t"+strings.Repeat(" (7)", k)+")")
			count += k
		}
		do(t, m, "(take t (7) (7))")
		count -= 2
		for range 2 {
			want(t, m, "(merge t)", api.Result{Count: (count + segment - 1) / segment})
			if r := m.Do("(show t)"); r.Count != count {
				t.Errorf("%d rows, not %d", r.Count, count)
			}
		}
		do(t, m, "(take t"+strings.Repeat(" (7)", count)+")")
		want(t, m, "(merge t)", api.Result{})
	}
}

func TestStats(t *testing.T) {
	m := small(t)
	if stats := m.Stats(); len(stats) != 0 {
		t.Errorf("of nothing: %v", stats)
	}
	do(t, m, "(make u ((a text)))", "(make t ((a int) (b text)))", "(view v (scan t))", "(make a9 ((a int)))", "(make a_ ((a int)))")
	check := func(want ...string) {
		t.Helper()
		var got []string
		for _, s := range m.Stats() {
			got = append(got, stat(s))
		}
		if strings.Join(got, ";") != strings.Join(want, ";") {
			t.Errorf("Stats: %v, not %v", got, want)
		}
	}
	check("a9 0 0/0", "a_ 0 0/0", "t 0 0/0 0/0", "u 0 0/0")
	do(t, m, `(add t (1 "x") (1 null) (2 null))`, `(add u (""))`)
	check("a9 0 0/0", "a_ 0 0/0", "t 3 2/0 1/2", "u 1 1/0")
	do(t, m, `(take t (1 "x"))`, "(merge t)")
	check("a9 0 0/0", "a_ 0 0/0", "t 2 2/0 0/2", "u 1 1/0")
	do(t, m, "(drop a9)", "(take t (1 null) (2 null))", "(add a_ (4) (4))")
	check("a_ 2 1/0", "t 0 0/0 0/0", "u 1 1/0")
}
