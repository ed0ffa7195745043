package tally_test

import (
	"slices"
	"strconv"
	"strings"
	"testing"

	"tallyhouse/api"
	"tallyhouse/tally"
	"tallyhouse/token"
)

var null = api.Value{}

func num(n int64) api.Value { return api.Value{Kind: api.Int, N: n} }

func text(s string) api.Value { return api.Value{Kind: api.Text, S: s} }

func row(values ...api.Value) []api.Value { return values }

func rowsOf(rows ...[]api.Value) [][]api.Value { return rows }

// machine with these knobs.
func machine(t *testing.T, segment, batch, budget int) *tally.Machine {
	t.Helper()
	m, e := tally.New(segment, batch, budget)
	if m == nil || e != api.OK {
		t.Fatalf("New(%d, %d, %d): error %d", segment, batch, budget, e)
	}
	return m
}

// small machine, of which segments, batches and budget are soon full.
func small(t *testing.T) *tally.Machine {
	t.Helper()
	return machine(t, 2, 2, api.MinBudget)
}

// do all of these lines, none of which is refused.
func do(t *testing.T, m *tally.Machine, lines ...string) {
	t.Helper()
	for _, line := range lines {
		if r := m.Do(line); r.Err != api.OK {
			t.Fatalf("%s: error %d", line, r.Err)
		}
	}
}

// want this result of a line.
func want(t *testing.T, m *tally.Machine, line string, result api.Result) {
	t.Helper()
	if got := m.Do(line); !sameResult(got, result) {
		t.Errorf("%s: %s, not %s", briefly(line), told(got), told(result))
	}
}

// wantRefused: nothing but this error is told, and nothing has changed.
func wantRefused(t *testing.T, m *tally.Machine, line string, why api.Errno) {
	t.Helper()
	before := state(m)
	want(t, m, line, api.Result{Err: why})
	if after := state(m); after != before {
		t.Errorf("%s: it was %s and is %s", briefly(line), before, after)
	}
}

// state of a machine, as far as names of one letter show it.
func state(m *tally.Machine) string {
	out := ""
	for letter := 'a'; letter <= 'z'; letter++ {
		if r := m.Do("(show " + string(letter) + ")"); r.Err == api.OK {
			out += string(letter) + " " + told(r) + "; "
		}
	}
	for _, s := range m.Stats() {
		out += stat(s) + "; "
	}
	return out
}

func stat(s api.Stat) string {
	out := s.Table + " " + strconv.Itoa(s.Rows)
	for i := range s.Each {
		out += " " + strconv.Itoa(s.Each[i]) + "/" + strconv.Itoa(s.Nulls[i])
	}
	return out
}

func sameRows(a, b [][]api.Value) bool { return slices.EqualFunc(a, b, slices.Equal) }

func sameResult(a, b api.Result) bool {
	return a.Err == b.Err && a.Count == b.Count && slices.Equal(a.Kinds, b.Kinds) && sameRows(a.Rows, b.Rows) && a.Text == b.Text
}

func briefly(s string) string {
	if len(s) > 300 {
		return s[:300] + ".."
	}
	return s
}

// told: a result as a text.
func told(r api.Result) string {
	out := "error " + strconv.Itoa(int(r.Err)) + ", count " + strconv.Itoa(r.Count) + ", kinds"
	for _, kind := range r.Kinds {
		out += " " + strconv.Itoa(kind)
	}
	return briefly(out + ", rows " + listed(r.Rows) + ", text " + strconv.Quote(r.Text))
}

// listed: rows as they are written in a command.
func listed(rows [][]api.Value) string {
	var out []string
	for _, row := range rows {
		var values []string
		for _, v := range row {
			values = append(values, written(v))
		}
		out = append(out, token.Listed(values))
	}
	return strings.Join(out, " ")
}

func written(v api.Value) string {
	switch v.Kind {
	case api.Int:
		return strconv.FormatInt(v.N, 10)
	case api.Text:
		return token.Quoted(v.S)
	}
	return "null"
}

// shown: the result of a line that shows these rows.
func shown(kinds []int, rows ...[]api.Value) api.Result {
	return api.Result{Count: len(rows), Kinds: kinds, Rows: rows}
}

// kinds that the letters i and t say.
func kindsOf(letters string) []int {
	var kinds []int
	for i := range len(letters) {
		kinds = append(kinds, map[byte]int{'i': api.Int, 't': api.Text}[letters[i]])
	}
	return kinds
}
