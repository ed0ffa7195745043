package cost_test

import (
	"slices"
	"strings"
	"testing"

	"tallyhouse/api"
	"tallyhouse/cost"
)

func sameStat(a, b api.Stat) bool {
	return a.Table == b.Table && a.Rows == b.Rows && slices.Equal(a.Each, b.Each) && slices.Equal(a.Nulls, b.Nulls)
}

// counts: what Stats answers.
func counts(t *testing.T, tables []api.Table, want ...api.Stat) {
	t.Helper()
	stats, e := cost.Stats(tables)
	if e != api.OK || !slices.EqualFunc(stats, want, sameStat) {
		t.Errorf("Stats of %v are %v, error %d, not %v", tables, stats, e, want)
	}
}

func TestStatsOfTables(t *testing.T) {
	counts(t, nil)
	counts(t, []api.Table{table("b", "i"), table("a", "tt")},
		api.Stat{Table: "b", Each: []int{0}, Nulls: []int{0}},
		api.Stat{Table: "a", Each: []int{0, 0}, Nulls: []int{0, 0}})
	counts(t, []api.Table{table("t", "it",
		[]api.Value{n(1), s("a")}, []api.Value{null, s("a")}, []api.Value{n(1), null}, []api.Value{n(-1), null}, []api.Value{n(0), s("")}, []api.Value{n(1), null})},
		api.Stat{Table: "t", Rows: 6, Each: []int{3, 2}, Nulls: []int{1, 3}})
	counts(t, []api.Table{table("t", "i", []api.Value{null}, []api.Value{null}), table("u", "t", []api.Value{s("0")}, []api.Value{s("")}, []api.Value{s("\x00")})},
		api.Stat{Table: "t", Rows: 2, Each: []int{0}, Nulls: []int{2}},
		api.Stat{Table: "u", Rows: 3, Each: []int{3}, Nulls: []int{0}})
	// The same rows in each table are counted anew.
	counts(t, []api.Table{table("t", "i", []api.Value{n(4)}), table("u", "i", []api.Value{n(4)})},
		api.Stat{Table: "t", Rows: 1, Each: []int{1}, Nulls: []int{0}},
		api.Stat{Table: "u", Rows: 1, Each: []int{1}, Nulls: []int{0}})
}

// TestStatsOfUncleanValues: they count as what Clean makes of them.
func TestStatsOfUncleanValues(t *testing.T) {
	counts(t, []api.Table{table("t", "it",
		[]api.Value{{Kind: api.Int, N: 1, S: "x"}, {Kind: api.Text, N: 5, S: "x"}},
		[]api.Value{{Kind: api.Int, N: 1, S: "y"}, {Kind: api.Text, N: 6, S: "x"}},
		[]api.Value{{Kind: 9, N: 1}, {Kind: -1, S: "x"}},
		[]api.Value{{N: 8, S: "z"}, {N: 7}})},
		api.Stat{Table: "t", Rows: 4, Each: []int{1, 1}, Nulls: []int{2, 2}})
}

func TestStatsOfManyRows(t *testing.T) {
	big := table("t", "ii")
	for i := range 10000 {
		big.Rows = append(big.Rows, []api.Value{n(int64(i)), n(int64(i % 17))})
	}
	counts(t, []api.Table{big}, api.Stat{Table: "t", Rows: 10000, Each: []int{10000, 17}, Nulls: []int{0, 0}})
}

func TestStatsOfTablesThatAreNotGood(t *testing.T) {
	good := table("t", "it", []api.Value{n(1), s("a")})
	named := func(name string) api.Table { return api.Table{Name: name, Columns: good.Columns} }
	for what, tables := range map[string][]api.Table{
		"no name":                {named("")},
		"no such name":           {named("T")},
		"too long a name":        {named(strings.Repeat("a", 41))},
		"two of a name":          {good, table("u", "i"), good},
		"no columns":             {{Name: "t"}},
		"33 columns":             {table("t", strings.Repeat("i", 33))},
		"no such kind":           {{Name: "t", Columns: []api.Column{{Name: "a", Kind: 3}}}},
		"two columns of a name":  {{Name: "t", Columns: []api.Column{{Name: "a", Kind: 1}, {Name: "a", Kind: 1}}}},
		"a row that is short":    {table("t", "ii", []api.Value{n(1)})},
		"a row that is long":     {table("t", "i", []api.Value{n(1), n(1)})},
		"a row of nothing":       {good, table("u", "i", nil)},
		"a value of other kinds": {table("t", "i", []api.Value{n(1)}, []api.Value{s("a")})},
		"too long a text":        {table("t", "t", []api.Value{s(strings.Repeat("a", 1001))})},
	} {
		if stats, e := cost.Stats(tables); e != api.ErrArg || stats != nil {
			t.Errorf("%s: Stats are %v, error %d", what, stats, e)
		}
	}
}
