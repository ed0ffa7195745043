package tally_test

import (
	"math/rand"
	"slices"
	"testing"

	"tallyhouse/api"
	"tallyhouse/cost"
	"tallyhouse/tally"
)

// kept: a machine, and how many rows its segments have.
type kept struct {
	*tally.Machine
	segment int
}

// machines with unlike knobs.
func machines(t *testing.T) []kept {
	var all []kept
	for _, knobs := range [][3]int{{1, 1, 4}, {2, 3, 5}, {3, 2, 4}, {api.MaxRows, api.MaxBatch, api.MaxBudget}} {
		all = append(all, kept{machine(t, knobs[0], knobs[1], knobs[2]), knobs[0]})
	}
	return all
}

// check that a machine tells of a command what the model does.
func check(t *testing.T, of *model, m kept, c command, wanted api.Result) {
	t.Helper()
	got := m.Do(c.line())
	if c.word == "explain" && wanted.Err == api.OK {
		if wrong := of.wrong(c.plan, got); wrong != "" {
			t.Fatalf("%s: %s: %s", c.line(), told(got), wrong)
		}
		return
	}
	if c.word == "merge" {
		wanted.Count = (len(of.tables[c.name].Rows) + m.segment - 1) / m.segment
	}
	if !sameResult(got, wanted) {
		t.Fatalf("%s: %s, not %s", c.line(), told(got), told(wanted))
	}
}

// checkAll that is there: each view shows what its plan answers, and the numbers
// are those of the tables.
func checkAll(t *testing.T, of *model, m kept) {
	t.Helper()
	for name, v := range of.views {
		shown, asked := m.Do("(show "+name+")"), m.Do("(ask "+v.text+")")
		if shown.Err != api.OK || !sameResult(shown, asked) {
			t.Fatalf("the view %s of %s shows %s and is %s", name, v.text, told(shown), told(asked))
		}
	}
	stats, _ := cost.Stats(of.all())
	same := func(a, b api.Stat) bool { return stat(a) == stat(b) }
	if got := m.Stats(); !slices.EqualFunc(got, stats, same) {
		t.Fatalf("Stats: %v, not %v", got, stats)
	}
}

// Whatever the knobs are, a machine tells what the document says.
func TestSessions(t *testing.T) {
	words := map[string]map[api.Errno]int{}
	for seed := range int64(120) {
		of, all := newModel(), machines(t)
		by := maker{rand.New(rand.NewSource(seed)), of}
		for i := range 150 {
			c := by.command()
			// What is beyond the bounds of what is promised is left out.
			if c.word == "add" && len(of.tables[c.name].Rows) > 12 {
				continue
			}
			wanted := of.do(c)
			for _, m := range all {
				check(t, of, m, c, wanted)
				if i%25 == 24 {
					checkAll(t, of, m)
				}
			}
			if words[c.word] == nil {
				words[c.word] = map[api.Errno]int{}
			}
			words[c.word][wanted.Err]++
		}
	}
	for word, times := range words {
		t.Log(word, times)
		if times[api.OK] < 50 {
			t.Errorf("%s is nearly always refused", word)
		}
	}
}
