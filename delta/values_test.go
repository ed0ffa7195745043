package delta_test

import (
	"fmt"
	"slices"
	"strconv"
	"strings"
	"testing"

	"tallyhouse/api"
	"tallyhouse/delta"
	"tallyhouse/plan"
)

var null = api.Value{}

func num(n int64) api.Value { return api.Value{Kind: api.Int, N: n} }

func text(s string) api.Value { return api.Value{Kind: api.Text, S: s} }

func row(values ...api.Value) []api.Value { return values }

// ints: rows of one number each.
func ints(numbers ...int64) [][]api.Value {
	rows := make([][]api.Value, len(numbers))
	for i, n := range numbers {
		rows[i] = row(num(n))
	}
	return rows
}

// upTo: as many rows, of the numbers from 0 on.
func upTo(count int) [][]api.Value {
	rows := make([][]api.Value, count)
	for i := range rows {
		rows[i] = row(num(int64(i)))
	}
	return rows
}

// table of a name, whose columns are of kinds that the letters i and t say.
func table(name, kinds string, rows ...[]api.Value) api.Table {
	t := api.Table{Name: name, Rows: rows}
	for i := range len(kinds) {
		kind := api.Int
		if kinds[i] == 't' {
			kind = api.Text
		}
		t.Columns = append(t.Columns, api.Column{Name: "c" + strconv.Itoa(i), Kind: kind})
	}
	return t
}

// comes: a row comes, or goes, so many times.
func comes(times int64, values ...api.Value) api.Change {
	return api.Change{Row: values, Weight: times}
}

func in(table string, list ...api.Change) api.Delta { return api.Delta{Table: table, Changes: list} }

func sameRows(a, b [][]api.Value) bool { return slices.EqualFunc(a, b, slices.Equal) }

func sameChanges(a, b []api.Change) bool {
	return slices.EqualFunc(a, b, func(a, b api.Change) bool { return a.Weight == b.Weight && slices.Equal(a.Row, b.Row) })
}

// orderRows by the document's words: by the first value in which they differ:
// null, numbers, texts.
func orderRows(a, b []api.Value) int {
	for i := range min(len(a), len(b)) {
		v, w := a[i], b[i]
		switch {
		case v == w:
		case v.Kind != w.Kind:
			return v.Kind - w.Kind
		case v.N < w.N || v.S < w.S:
			return -1
		default:
			return 1
		}
	}
	return len(a) - len(b)
}

// show a row as a text.
func showRow(row []api.Value) string {
	var words []string
	for _, v := range row {
		switch v.Kind {
		case api.Int:
			words = append(words, strconv.FormatInt(v.N, 10))
		case api.Text:
			words = append(words, strconv.Quote(v.S))
		default:
			words = append(words, "-")
		}
	}
	return "[" + strings.Join(words, " ") + "]"
}

// show rows as a text.
func show(rows [][]api.Value) string {
	var out strings.Builder
	for _, row := range rows {
		out.WriteString(showRow(row))
	}
	return out.String()
}

// told: changes as a text.
func told(list []api.Change) string {
	var out strings.Builder
	for _, c := range list {
		fmt.Fprintf(&out, "%+d%s", c.Weight, showRow(c.Row))
	}
	return out.String()
}

// parsed: the plan of a text that is one.
func parsed(t *testing.T, text string) api.Plan {
	t.Helper()
	p, e := plan.Parse(text)
	if e != api.OK {
		t.Fatalf("%s: error %d", text, e)
	}
	return p
}

func printed(p api.Plan) string {
	text, _ := plan.Print(p)
	return text
}

// newView of a plan's text.
func newView(t *testing.T, text string, tables ...api.Table) *delta.View {
	t.Helper()
	v, e := delta.New(parsed(t, text), tables)
	if v == nil || e != api.OK {
		t.Fatalf("New of %s: %v, error %d", text, v, e)
	}
	return v
}

// apply what is not refused.
func apply(t *testing.T, v *delta.View, l ...api.Delta) []api.Change {
	t.Helper()
	list, e := v.Apply(l)
	if e != api.OK {
		t.Fatalf("Apply of %v: error %d", l, e)
	}
	return list
}
