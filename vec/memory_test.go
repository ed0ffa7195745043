package vec_test

import (
	"slices"
	"testing"

	"tallyhouse/api"
	"tallyhouse/vec"
)

func TestFromKeepsNothing(t *testing.T) {
	for _, kind := range []int{api.Int, api.Text} {
		for _, column := range columns(kind) {
			values := append(make([]api.Value, 0, len(column)+3), column...)
			v, _ := vec.From(kind, values)
			spoilRow(values)
			if !same(v, byHand(kind, column)) {
				t.Errorf("From(%d, %v) changed with its values", kind, column)
			}
			copy(values, column)
			spoil(v)
			if !slices.Equal(values, column) {
				t.Errorf("From(%d, %v): its values changed with the vec", kind, column)
			}
		}
	}
}

func TestFromLeavesValuesAsTheyAre(t *testing.T) {
	values := []api.Value{{Kind: api.Int, N: 1, S: "x"}, {Kind: 7, N: 2, S: "y"}}
	before := slices.Clone(values)
	mustFrom(t, api.Int, values...)
	if !slices.Equal(values, before) {
		t.Errorf("the values are %v, and were %v", values, before)
	}
}

// makers: each call that answers a vec of a vec.
func makers() []func(v api.Vec) api.Vec {
	return []func(v api.Vec) api.Vec{
		func(v api.Vec) api.Vec { w, _ := vec.Pick(v, nil); return w },
		func(v api.Vec) api.Vec {
			places := make([]int, vec.Len(v))
			for i := range places {
				places[i] = i
			}
			w, _ := vec.Pick(v, places)
			return w
		},
		func(v api.Vec) api.Vec { w, _ := vec.Joined(v, v); return w },
		func(v api.Vec) api.Vec { w, _ := vec.Joined(v, api.Vec{Kind: v.Kind}); return w },
		func(v api.Vec) api.Vec { w, _ := vec.Joined(api.Vec{Kind: v.Kind}, v); return w },
	}
}

func TestVecsAreNewMemory(t *testing.T) {
	for _, good := range goodVecs() {
		for i, make := range makers() {
			v := roomy(good)
			before := copied(whole(v))
			w := make(v)
			if !same(whole(v), before) {
				t.Errorf("call %d changed %v", i, good)
			}
			want := copied(w)
			spoil(v)
			if !same(w, want) {
				t.Errorf("call %d of %v: its answer changed with the vec", i, good)
			}
			v = roomy(good)
			spoil(make(v))
			if !same(whole(v), before) {
				t.Errorf("call %d of %v: the vec changed with the answer", i, good)
			}
			if !same(make(v), want) {
				t.Errorf("call %d of %v answers otherwise the second time", i, good)
			}
		}
	}
}

func TestListsAreNewMemory(t *testing.T) {
	for _, good := range goodVecs() {
		v := roomy(good)
		values, places := vec.Values(v), vec.Places(v)
		rows, _ := vec.Table([]api.Vec{v, v})
		wantValues, wantPlaces := slices.Clone(values), slices.Clone(places)
		wantRows := copiedRows(rows)
		spoil(v)
		if !slices.Equal(values, wantValues) || !slices.Equal(places, wantPlaces) || !slices.EqualFunc(rows, wantRows, slices.Equal) {
			t.Errorf("what was told of %v changed with it", good)
		}
		v = roomy(good)
		spoilRow(values)
		for i := range places {
			places[i] = -7
		}
		for i := range rows {
			spoilRow(rows[i])
			if i+1 < len(rows) && !slices.Equal(rows[i+1], wantRows[i+1]) {
				t.Errorf("rows of %v share memory", good)
			}
		}
		if !slices.Equal(vec.Values(v), wantValues) || !slices.Equal(vec.Places(v), wantPlaces) {
			t.Errorf("%v tells otherwise the second time", good)
		}
	}
}

func copiedRows(rows [][]api.Value) [][]api.Value {
	var out [][]api.Value
	for _, row := range rows {
		out = append(out, slices.Clone(row))
	}
	return out
}

func TestPlacesOfPickAreNotKept(t *testing.T) {
	v := mustFrom(t, api.Int, n(1), n(2), n(3))
	places := []int{2, 0}
	w, _ := vec.Pick(v, places)
	if !slices.Equal(places, []int{2, 0}) {
		t.Errorf("the places are %v", places)
	}
	places[0], places[1] = 1, 1
	if !slices.Equal(vec.Values(w), []api.Value{n(3), n(1)}) {
		t.Errorf("the vec changed with its places: %v", w)
	}
}

func TestTableKeepsNoColumns(t *testing.T) {
	columns := []api.Vec{byHand(api.Int, []api.Value{n(1), n(2)}), byHand(api.Text, []api.Value{s("a"), s("b")})}
	rows, _ := vec.Table(columns)
	columns[0], columns[1] = columns[1], columns[0]
	spoil(columns[0])
	want := [][]api.Value{{n(1), s("a")}, {n(2), s("b")}}
	if !slices.EqualFunc(rows, want, slices.Equal) {
		t.Errorf("the rows changed with the columns: %v", rows)
	}
}
