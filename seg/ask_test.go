package seg_test

import (
	"math"
	"math/rand"
	"reflect"
	"testing"

	"tallyhouse/api"
	"tallyhouse/seg"
)

func TestHead(t *testing.T) {
	for _, a := range samples() {
		if h, e := seg.Head(spelled(a)); e != api.OK || !sameHead(h, a.head()) {
			t.Errorf("Head of %.200v: %.200v, error %d, not %.200v", a.rows, h, e, a.head())
		}
	}
	h, e := seg.Head(spelled(sample{[]int{api.Int, api.Text, api.Int}, [][]api.Value{{n(8), s("b"), null}, {n(-3), null, null}, {n(4), s("a"), null}}}))
	want := api.Head{Rows: 3, Low: []api.Value{n(-3), s("a"), null}, High: []api.Value{n(8), s("b"), null}, Nulls: []int{0, 1, 3}}
	if e != api.OK || !sameHead(h, want) {
		t.Errorf("%v, error %d", h, e)
	}
}

func TestColumn(t *testing.T) {
	for _, a := range samples() {
		text := spelled(a)
		for i := range a.kinds {
			if v, e := seg.Column(text, i); e != api.OK || !sameVec(v, a.column(i)) {
				t.Errorf("Column %d of %.200v: %.200v, error %d", i, a.rows, v, e)
			}
		}
		if all, e := seg.Columns(text); e != api.OK || len(all) != len(a.kinds) || !sameVec(all[0], a.column(0)) || !sameVec(all[len(all)-1], a.column(len(all)-1)) {
			t.Errorf("Columns of %.200v: %.200v, error %d", a.rows, all, e)
		}
		for _, i := range []int{-1, math.MinInt, len(a.kinds), len(a.kinds) + 1, 256, 1 << 32, math.MaxInt} {
			if v, e := seg.Column(text, i); e != api.ErrArg || !reflect.DeepEqual(v, api.Vec{}) {
				t.Errorf("Column %d of %d: %.200v, error %d", i, len(a.kinds), v, e)
			}
		}
	}
}

// picked of each row the values of these columns.
func picked(a sample, columns []int) [][]api.Value {
	var out [][]api.Value
	for _, row := range a.rows {
		var values []api.Value
		for _, i := range columns {
			values = append(values, row[i])
		}
		out = append(out, values)
	}
	return out
}

func TestRead(t *testing.T) {
	r := rand.New(rand.NewSource(21))
	for _, a := range samples() {
		text := spelled(a)
		lists := [][]int{nil, {}, {0}, {len(a.kinds) - 1}, {0, 0, 0}, allColumns(len(a.kinds))}
		for range 4 {
			var list []int
			for range r.Intn(40) {
				list = append(list, r.Intn(len(a.kinds)))
			}
			lists = append(lists, list)
		}
		for _, list := range lists {
			if rows, e := seg.Read(text, list); e != api.OK || !sameRows(rows, picked(a, list)) {
				t.Errorf("Read %v of %.200v: %.200v, error %d", list, a.rows, rows, e)
			}
		}
	}
}

func TestReadRefuses(t *testing.T) {
	for _, a := range smallSamples() {
		count := len(a.kinds)
		for _, list := range [][]int{{-1}, {count}, {0, count}, {count, 0}, {0, 0, -1}, {math.MaxInt}, {math.MinInt}, {256}, {1 << 32}, append(allColumns(count), count)} {
			if rows, e := seg.Read(spelled(a), list); e != api.ErrArg || rows != nil {
				t.Errorf("Read %v of %d columns: %v, error %d", list, count, rows, e)
			}
		}
	}
}
