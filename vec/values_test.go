package vec_test

import (
	"math"
	"slices"
	"strings"
	"testing"

	"tallyhouse/api"
	"tallyhouse/vec"
)

var null api.Value

func n(x int64) api.Value { return api.Value{Kind: api.Int, N: x} }

func s(x string) api.Value { return api.Value{Kind: api.Text, S: x} }

func long(size int) string { return strings.Repeat("x", size) }

// columns: clean values, each list of one kind.
func columns(kind int) [][]api.Value {
	if kind == api.Int {
		return [][]api.Value{
			{}, {null}, {n(0)}, {n(7)}, {null, null},
			{n(3), null, n(-1), n(0), n(math.MinInt64), n(math.MaxInt64), null, n(3)},
		}
	}
	return [][]api.Value{
		{}, {null}, {s("")}, {s("a")}, {null, null},
		{s("b"), null, s(""), s("\x00\xff"), s("1"), s(long(api.MaxText)), null, s("b")},
	}
}

// goodVecs: the vecs of columns, of both kinds, written out by hand.
func goodVecs() []api.Vec {
	var out []api.Vec
	for _, values := range columns(api.Int) {
		out = append(out, byHand(api.Int, values))
	}
	for _, values := range columns(api.Text) {
		out = append(out, byHand(api.Text, values))
	}
	return out
}

func byHand(kind int, values []api.Value) api.Vec {
	v := api.Vec{Kind: kind}
	for _, value := range values {
		v.Null = append(v.Null, value == null)
		if kind == api.Int {
			v.N = append(v.N, value.N)
		} else {
			v.S = append(v.S, value.S)
		}
	}
	return v
}

// badVecs: vecs that break the rule for a good one at a single spot.
func badVecs() []api.Vec {
	return []api.Vec{
		{},
		{Kind: -1}, {Kind: 3}, {Kind: 9}, {Kind: math.MinInt}, {Kind: math.MaxInt},
		{Kind: api.Null, Null: []bool{true}},
		{Kind: api.Null, Null: []bool{true}, N: []int64{0}},
		{Kind: 3, Null: []bool{false}, N: []int64{1}},
		{Kind: api.Int, Null: []bool{true}, N: []int64{1}},
		{Kind: api.Int, Null: []bool{false, true, false}, N: []int64{1, -1, 1}},
		{Kind: api.Int, Null: []bool{true}},
		{Kind: api.Int, Null: []bool{false, false}, N: []int64{1}},
		{Kind: api.Int, Null: []bool{false}, N: []int64{1, 2}},
		{Kind: api.Int, N: []int64{1}},
		{Kind: api.Int, S: []string{""}},
		{Kind: api.Int, Null: []bool{false}, N: []int64{1}, S: []string{""}},
		{Kind: api.Int, Null: []bool{false}, S: []string{"a"}},
		{Kind: api.Text, Null: []bool{true}, S: []string{"a"}},
		{Kind: api.Text, Null: []bool{false, true}, S: []string{"a", "\x00"}},
		{Kind: api.Text, Null: []bool{true}},
		{Kind: api.Text, Null: []bool{false, false}, S: []string{"a"}},
		{Kind: api.Text, Null: []bool{false}, S: []string{"a", "b"}},
		{Kind: api.Text, S: []string{"a"}},
		{Kind: api.Text, N: []int64{0}},
		{Kind: api.Text, Null: []bool{false}, S: []string{"a"}, N: []int64{0}},
		{Kind: api.Text, Null: []bool{false}, N: []int64{1}},
		{Kind: api.Text, Null: []bool{false, false}, S: []string{"a", long(api.MaxText + 1)}},
	}
}

// Lists that are empty may be nil.
func same(v, w api.Vec) bool {
	return v.Kind == w.Kind && slices.Equal(v.Null, w.Null) && slices.Equal(v.N, w.N) && slices.Equal(v.S, w.S)
}

func copied(v api.Vec) api.Vec {
	return api.Vec{Kind: v.Kind, Null: slices.Clone(v.Null), N: slices.Clone(v.N), S: slices.Clone(v.S)}
}

// spoil all that v's lists hold, spare room included.
func spoil(v api.Vec) {
	null, n, s := v.Null[:cap(v.Null)], v.N[:cap(v.N)], v.S[:cap(v.S)]
	for i := range null {
		null[i] = !null[i]
	}
	for i := range n {
		n[i] = ^n[i]
	}
	for i := range s {
		s[i] += "spoilt"
	}
}

func spoilRow(row []api.Value) {
	row = row[:cap(row)]
	for i := range row {
		row[i] = api.Value{Kind: api.Text, N: 99, S: "spoilt"}
	}
}

// roomy: as v, with spare room behind each list that a careless append would
// fill.
func roomy(v api.Vec) api.Vec {
	return api.Vec{
		Kind: v.Kind,
		Null: append(make([]bool, 0, len(v.Null)+9), v.Null...),
		N:    append(make([]int64, 0, len(v.N)+9), v.N...),
		S:    append(make([]string, 0, len(v.S)+9), v.S...),
	}
}

// whole: v with its spare room shown.
func whole(v api.Vec) api.Vec {
	return api.Vec{Kind: v.Kind, Null: v.Null[:cap(v.Null)], N: v.N[:cap(v.N)], S: v.S[:cap(v.S)]}
}

func refusedVec(t *testing.T, what string, v api.Vec, e, want api.Errno) {
	t.Helper()
	if e != want || v.Kind != 0 || v.Null != nil || v.N != nil || v.S != nil {
		t.Errorf("%s: %v, error %d, not only error %d", what, v, e, want)
	}
}

func mustFrom(t *testing.T, kind int, values ...api.Value) api.Vec {
	t.Helper()
	v, e := vec.From(kind, values)
	if e != api.OK {
		t.Fatalf("From(%d, %v): error %d", kind, values, e)
	}
	return v
}
