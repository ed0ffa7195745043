package tally_test

import (
	"slices"
	"testing"

	"tallyhouse/api"
	"tallyhouse/tally"
)

// spoil all that a result holds, the room behind it included.
func spoil(r api.Result) {
	kinds, rows := r.Kinds[:cap(r.Kinds)], r.Rows[:cap(r.Rows)]
	for i := range kinds {
		kinds[i] = 99
	}
	for i, row := range rows {
		row = row[:cap(row)]
		for k := range row {
			row[k] = text("spoilt")
		}
		rows[i] = nil
	}
}

// What a result holds is the caller's own.
func TestResultsAreTheCallersOwn(t *testing.T) {
	m := settled(t)
	for _, line := range []string{
		"(show t)", "(show v)", "(show w)", "(ask (scan t))", "(ask (scan w))", "(ask (join (eq #0 #2) (scan t) (scan u)))",
		"(ask (group (0) ((most 1)) (scan v)))", "(ask (union (scan t) (scan t)))", "(explain (scan w))",
	} {
		before, first := state(m), m.Do(line)
		wanted := told(first)
		spoil(first)
		if again := told(m.Do(line)); again != wanted {
			t.Errorf("%s: %s, and then %s", line, wanted, again)
		}
		if after := state(m); after != before {
			t.Errorf("%s: it was %s and is %s", line, before, after)
		}
	}
	spoil(m.Do("(view z (scan v))"))
	want(t, m, "(show z)", m.Do("(show v)"))
}

func TestStatsAreTheCallersOwn(t *testing.T) {
	m := settled(t)
	before := state(m)
	stats := m.Stats()
	for i := range stats {
		each, nulls := stats[i].Each[:cap(stats[i].Each)], stats[i].Nulls[:cap(stats[i].Nulls)]
		for k := range each {
			each[k] = 99
		}
		for k := range nulls {
			nulls[k] = 99
		}
		stats[i] = api.Stat{}
	}
	if after := state(m); after != before {
		t.Errorf("it was %s and is %s", before, after)
	}
}

// No two rows of one result share memory.
func TestRowsOfAResultAreApart(t *testing.T) {
	for _, m := range machines(t) {
		do(t, m.Machine, "(make t ((a int) (b text)))", `(add t (1 "x") (2 null) (2 null) (3 "y") (3 "y") (3 "y") (4 ""))`, "(view v (union (scan t) (scan t)))")
		for _, line := range []string{"(show t)", "(show v)", "(ask (scan t))", "(ask (scan v))"} {
			rows := m.Do(line).Rows
			for i := range rows {
				_ = append(rows[i], num(99))
				for k := range rows[i] {
					rows[i][k] = num(-99)
				}
				for _, other := range rows[i+1:] {
					if slices.Contains(other, num(-99)) || slices.Contains(other, num(99)) {
						t.Fatalf("%s: with one row another one changes", line)
					}
				}
			}
		}
	}
}

// Two machines know nothing of one another.
func TestMachinesAreApart(t *testing.T) {
	one, other := settled(t), settled(t)
	before := state(other)
	do(t, one, "(add t (7 null))", "(drop w)", "(make z ((a int)))", "(merge t)")
	if after := state(other); after != before {
		t.Errorf("it was %s and is %s", before, after)
	}
}

// The same commands tell the same, however maps are gone through.
func TestSessionsTellTheSameAgain(t *testing.T) {
	session := func() string {
		m := small(t)
		do(t, m, "(make t ((a int) (b text)))", "(make u ((a int)))", "(view v (join (eq #0 #2) (scan t) (scan u)))", "(view w (minus (scan u) (project (#0) (scan v))))")
		do(t, m, `(add t (1 "x") (2 "y") (2 null))`, "(add u (1) (2) (2) (3))", "(take u (2))")
		return state(m) + told(m.Do("(explain (join (eq #3 #4) (scan v) (scan w)))"))
	}
	wanted := session()
	for range 10 {
		if got := session(); got != wanted {
			t.Fatalf("%s, and once %s", wanted, got)
		}
	}
}

// A refusal tells nothing but itself, however much there would have been to tell.
func TestRefusalsTellNothing(t *testing.T) {
	m := settled(t)
	for _, line := range []string{"(show z)", "(ask (scan z))", "(explain (filter #1 (scan t)))", "(view v (scan t))", "(take t (5 null) (6 null))", "(merge v)", "(ask (scan t)) ()"} {
		if r := m.Do(line); r.Err == api.OK || r.Count != 0 || r.Kinds != nil || r.Rows != nil || r.Text != "" {
			t.Errorf("%s: %s", line, told(r))
		}
	}
	if m, e := tally.New(0, 0, 0); m != nil || e != api.ErrArg {
		t.Errorf("New: %v, error %d", m, e)
	}
}
