package spill_test

import (
	"cmp"
	"math/rand"
	"slices"
	"testing"

	"tallyhouse/api"
	"tallyhouse/cell"
)

var null = api.Value{}

func num(n int64) api.Value { return api.Value{Kind: api.Int, N: n} }

func text(s string) api.Value { return api.Value{Kind: api.Text, S: s} }

func row(values ...api.Value) []api.Value { return values }

// ints: a row of numbers.
func ints(numbers ...int64) []api.Value {
	values := make([]api.Value, len(numbers))
	for i, n := range numbers {
		values[i] = num(n)
	}
	return values
}

// counted: rows of one number each, from 0 on.
func counted(n int) [][]api.Value {
	rows := make([][]api.Value, n)
	for i := range rows {
		rows[i] = ints(int64(i))
	}
	return rows
}

// manyRows: rows of up to width values of few kinds, so that many are the same.
func manyRows(r *rand.Rand, n, width, unlike int) [][]api.Value {
	rows := make([][]api.Value, n)
	for i := range rows {
		rows[i] = make([]api.Value, r.Intn(width+1))
		for k := range rows[i] {
			rows[i][k] = someValue(r, unlike)
		}
	}
	return rows
}

func someValue(r *rand.Rand, unlike int) api.Value {
	switch n := r.Intn(unlike); r.Intn(5) {
	case 0:
		return null
	case 1:
		return text(string(rune('a' + n%26)))
	case 2:
		return num(-int64(n))
	default:
		return num(int64(n))
	}
}

func sameRows(a, b [][]api.Value) bool {
	return slices.EqualFunc(a, b, func(x, y []api.Value) bool { return slices.Equal(x, y) })
}

func wantRows(t *testing.T, what string, got, want [][]api.Value) {
	t.Helper()
	if !sameRows(got, want) {
		t.Errorf("%s: %v, not %v", what, got, want)
	}
}

// column of a row, as the document says it.
func column(row []api.Value, c int) api.Value {
	if c >= len(row) {
		return null
	}
	return cell.Clean(row[c])
}

// modelSort: what Sort must hand out.
func modelSort(rows [][]api.Value, keys []api.Key) [][]api.Value {
	sorted := slices.Clone(rows)
	slices.SortStableFunc(sorted, func(a, b []api.Value) int {
		for _, key := range keys {
			x, y := column(a, key.Col), column(b, key.Col)
			if key.Desc {
				x, y = y, x
			}
			if found := cell.Order(x, y); found != 0 {
				return found
			}
		}
		return cell.Rows(a, b)
	})
	return sorted
}

// modelOnce: what Once must hand out.
func modelOnce(rows [][]api.Value) [][]api.Value {
	return slices.CompactFunc(modelSort(rows, nil), func(a, b []api.Value) bool { return cell.Rows(a, b) == 0 })
}

// valuesAt: a row's values in these columns, and whether none of them is null.
func valuesAt(row []api.Value, columns []int) ([]api.Value, bool) {
	values, whole := []api.Value{}, true
	for _, c := range columns {
		v := column(row, c)
		values = append(values, v)
		whole = whole && v.Kind != api.Null
	}
	return values, whole
}

// modelPairs: what Pairs must hand out.
func modelPairs(a, b [][]api.Value, left, right []int) [][]api.Value {
	type pair struct{ values, a, b []api.Value }
	var pairs []pair
	for _, x := range a {
		for _, y := range b {
			at, whole := valuesAt(x, left)
			other, _ := valuesAt(y, right)
			if whole && slices.Equal(at, other) {
				pairs = append(pairs, pair{at, x, y})
			}
		}
	}
	slices.SortStableFunc(pairs, func(p, q pair) int {
		return cmp.Or(cell.Rows(p.values, q.values), cell.Rows(p.a, q.a), cell.Rows(p.b, q.b))
	})
	var rows [][]api.Value
	for _, p := range pairs {
		rows = append(rows, slices.Concat(p.a, p.b))
	}
	return rows
}

// mostPuts that Sort may make of n rows.
func mostPuts(n, budget int) int {
	k := 0
	for power := budget - 1; power < n; power *= budget - 1 {
		k++
	}
	return n * k
}
