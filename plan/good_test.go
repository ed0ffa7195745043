package plan_test

import (
	"strconv"
	"strings"
	"testing"

	"tallyhouse/api"
	"tallyhouse/plan"
)

// named: a table with one column.
func named(name, column string) api.Table {
	return api.Table{Name: name, Columns: []api.Column{{Name: column, Kind: api.Int}}}
}

// broad: a table of so many columns.
func broad(name string, count int) api.Table { return table(name, strings.Repeat("i", count)) }

func TestGood(t *testing.T) {
	many := []api.Table{}
	for i := range 3000 {
		many = append(many, named("t"+strconv.Itoa(i), "a"))
	}
	for what, tables := range map[string][]api.Table{
		"none":                      nil,
		"no row":                    {named("t", "a")},
		"the example":               example(),
		"names of 40 bytes":         {named(strings.Repeat("a", 40), "b_9"), named("z"+strings.Repeat("_", 39), "z")},
		"one column's name twice":   {named("t", "a"), named("u", "a")},
		"a column named as a table": {named("t", "t")},
		"one column":                {broad("t", 1)},
		"32 columns":                {broad("t", 32)},
		"3000 tables":               many,
		"texts of 1000 bytes":       {table("t", "tt", []api.Value{s(long(1000)), s(long(1000))})},
		"nulls":                     {table("t", "it", []api.Value{null, null})},
		"what counts as null":       {table("t", "it", []api.Value{{Kind: 3, N: 1, S: long(2000)}, {Kind: -1, N: 4}})},
		"what counts as a number":   {table("t", "i", []api.Value{{Kind: api.Int, N: 1, S: long(2000)}})},
		"what counts as a text":     {table("t", "t", []api.Value{{Kind: api.Text, N: 1, S: "a"}})},
		"rows that are the same":    {table("t", "i", []api.Value{n(1)}, []api.Value{n(1)})},
		"any bytes":                 {table("t", "t", []api.Value{s("\x00\xff\"")})},
		"keywords":                  {named("null", "int"), named("scan", "text")},
	} {
		if e := plan.Good(tables); e != api.OK {
			t.Errorf("%s: error %d", what, e)
		}
	}
}

// withoutRows: tables that are not good, whatever rows they have.
func withoutRows() map[string][]api.Table {
	out := map[string][]api.Table{
		"two of one name":        {named("t", "a"), named("u", "a"), named("t", "b")},
		"two columns of a name":  {{Name: "t", Columns: []api.Column{{Name: "a", Kind: api.Int}, {Name: "b", Kind: api.Int}, {Name: "a", Kind: api.Text}}}},
		"no column":              {named("u", "a"), {Name: "t"}},
		"33 columns":             {broad("t", 33)},
		"a column of kind Null":  {{Name: "t", Columns: []api.Column{{Name: "a"}}}},
		"a column of kind 3":     {{Name: "t", Columns: []api.Column{{Name: "a", Kind: 3}}}},
		"a column of kind -1":    {{Name: "t", Columns: []api.Column{{Name: "a", Kind: -1}}}},
		"wrong in the last one":  {named("t", "a"), named("u", "a"), named("v", "")},
		"wrong in the first one": {named("", "a"), named("t", "a")},
	}
	for _, name := range []string{"", "_", "1", "T", "a-b", "a#", "a b", "é", "a\x00", strings.Repeat("a", 41)} {
		out["a table "+strconv.Quote(name)] = []api.Table{named(name, "a")}
		out["a column "+strconv.Quote(name)] = []api.Table{named("t", name)}
	}
	return out
}

// withRows: tables that are not good only for their rows.
func withRows() map[string][]api.Table {
	good := []api.Value{n(1), s("x")}
	return map[string][]api.Table{
		"no values":                {table("t", "it", good, nil)},
		"too few values":           {table("t", "it", good, []api.Value{n(1)})},
		"too many values":          {table("t", "it", good, []api.Value{n(1), s("x"), null})},
		"a text among numbers":     {table("t", "it", []api.Value{s("1"), s("x")}, good)},
		"a number among texts":     {table("t", "it", good, []api.Value{n(1), n(1)}, good)},
		"a text of 1001 bytes":     {table("t", "it", []api.Value{n(1), s(long(1001))})},
		"wrong in the second one":  {table("t", "it", good), table("u", "i", []api.Value{s("")})},
		"wrong in the last row":    {table("t", "i", []api.Value{n(1)}, []api.Value{n(1)}, []api.Value{s("a")})},
		"a text, also of a number": {table("t", "i", []api.Value{{Kind: api.Text, N: 1}})},
	}
}

func TestTablesThatAreNotGood(t *testing.T) {
	for what, tables := range withoutRows() {
		if e := plan.Good(tables); e != api.ErrArg {
			t.Errorf("%s: error %d", what, e)
		}
		refused(t, what, empty(api.Int), tables, api.ErrArg)
	}
	for what, tables := range withRows() {
		if e := plan.Good(tables); e != api.ErrArg {
			t.Errorf("%s: error %d", what, e)
		}
		if rows, e := plan.Answer(empty(api.Int), tables); e != api.ErrArg || rows != nil {
			t.Errorf("%s: Answer gives %v, error %d", what, rows, e)
		}
		if kinds, e := plan.Check(empty(api.Int), tables); e != api.OK || len(kinds) != 1 {
			t.Errorf("%s: Check, which looks at no row, gives %v, error %d", what, kinds, e)
		}
	}
}
