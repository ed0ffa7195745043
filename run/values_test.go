package run_test

import (
	"slices"
	"strconv"
	"strings"
	"testing"

	"tallyhouse/api"
	"tallyhouse/plan"
)

var null = api.Value{}

func num(n int64) api.Value { return api.Value{Kind: api.Int, N: n} }

func text(s string) api.Value { return api.Value{Kind: api.Text, S: s} }

// ints: rows of one number each.
func ints(numbers ...int64) [][]api.Value {
	rows := make([][]api.Value, len(numbers))
	for i, n := range numbers {
		rows[i] = []api.Value{num(n)}
	}
	return rows
}

// counted: as many rows, of the numbers from 0 on.
func counted(count int) [][]api.Value {
	rows := make([][]api.Value, count)
	for i := range rows {
		rows[i] = []api.Value{num(int64(i))}
	}
	return rows
}

// table of a name, whose columns are of kinds that the letters i and t say.
func table(name, kinds string, rows ...[]api.Value) api.Table {
	t := api.Table{Name: name, Rows: rows}
	for i := range len(kinds) {
		kind := api.Int
		if kinds[i] == 't' {
			kind = api.Text
		}
		t.Columns = append(t.Columns, api.Column{Name: "c" + strconv.Itoa(i), Kind: kind})
	}
	return t
}

func kindsOf(t api.Table) []int {
	var kinds []int
	for _, c := range t.Columns {
		kinds = append(kinds, c.Kind)
	}
	return kinds
}

func sameRows(a, b [][]api.Value) bool { return slices.EqualFunc(a, b, slices.Equal) }

// show rows as a text.
func show(rows [][]api.Value) string {
	var out strings.Builder
	for _, row := range rows {
		for i, v := range row {
			out.WriteString([]string{"[", " "}[min(i, 1)])
			switch v.Kind {
			case api.Int:
				out.WriteString(strconv.FormatInt(v.N, 10))
			case api.Text:
				out.WriteString(strconv.Quote(v.S))
			default:
				out.WriteString("-")
			}
		}
		out.WriteString("]")
	}
	return out.String()
}

// parsed: the plan of a text that is one.
func parsed(t *testing.T, text string) api.Plan {
	t.Helper()
	p, e := plan.Parse(text)
	if e != api.OK {
		t.Fatalf("%s: error %d", text, e)
	}
	return p
}

func printed(p api.Plan) string {
	text, _ := plan.Print(p)
	return text
}

// mostPuts that may be made with so many rows.
func mostPuts(rows, budget int) int {
	k := 0
	for power := budget - 1; power < rows; power *= budget - 1 {
		k++
	}
	return rows * k
}
