package vec_test

import (
	"fmt"
	"math"
	"slices"
	"testing"

	"tallyhouse/api"
	"tallyhouse/vec"
)

func TestFrom(t *testing.T) {
	for _, kind := range []int{api.Int, api.Text} {
		for _, values := range columns(kind) {
			v, e := vec.From(kind, values)
			if want := byHand(kind, values); e != api.OK || !same(v, want) {
				t.Errorf("From(%d, %v) = %v, error %d, not %v", kind, values, v, e, want)
			}
		}
		if v, e := vec.From(kind, nil); e != api.OK || v.Kind != kind || !vec.Good(v) || vec.Len(v) != 0 {
			t.Errorf("From(%d, nil) = %v, error %d", kind, v, e)
		}
	}
}

func TestFromCountsCleanValues(t *testing.T) {
	v := mustFrom(t, api.Int, api.Value{Kind: api.Int, N: 5, S: long(api.MaxText + 1)}, api.Value{Kind: 3, N: 5, S: "x"}, api.Value{Kind: -1, N: 5, S: long(api.MaxText + 1)})
	if want := byHand(api.Int, []api.Value{n(5), null, null}); !same(v, want) {
		t.Errorf("numbers: %v, not %v", v, want)
	}
	v = mustFrom(t, api.Text, api.Value{Kind: api.Text, N: 5, S: "a"}, api.Value{Kind: api.Null, N: 5, S: "x"}, api.Value{Kind: math.MaxInt, S: long(api.MaxText + 1)})
	if want := byHand(api.Text, []api.Value{s("a"), null, null}); !same(v, want) {
		t.Errorf("texts: %v, not %v", v, want)
	}
}

func TestFromRefuses(t *testing.T) {
	full, large := s(long(api.MaxText)), s(long(api.MaxText+1))
	for _, c := range []struct {
		what   string
		kind   int
		values []api.Value
		want   api.Errno
	}{
		{"kind null", api.Null, nil, api.ErrArg},
		{"kind null of nulls", api.Null, []api.Value{null}, api.ErrArg},
		{"kind 3", 3, nil, api.ErrArg},
		{"kind -1", -1, nil, api.ErrArg},
		{"kind far off", 1<<32 + api.Int, nil, api.ErrArg},
		{"all is wrong", 3, []api.Value{n(1), large}, api.ErrArg},
		{"a text among numbers", api.Int, []api.Value{n(1), null, s("a")}, api.ErrKind},
		{"an empty text among numbers", api.Int, []api.Value{s("")}, api.ErrKind},
		{"a number among texts", api.Text, []api.Value{n(0), s("a")}, api.ErrKind},
		{"a long text among numbers", api.Int, []api.Value{large}, api.ErrKind},
		{"a long text ahead of a number", api.Text, []api.Value{large, n(1)}, api.ErrKind},
		{"a long text behind a number", api.Text, []api.Value{n(1), large}, api.ErrKind},
		{"a long text", api.Text, []api.Value{large}, api.ErrLarge},
		{"a long text behind others", api.Text, []api.Value{s("a"), null, full, large, s("a")}, api.ErrLarge},
	} {
		v, e := vec.From(c.kind, c.values)
		refusedVec(t, c.what, v, e, c.want)
	}
}

func TestGood(t *testing.T) {
	for _, v := range goodVecs() {
		if !vec.Good(v) {
			t.Errorf("%v is good", v)
		}
	}
	for _, v := range badVecs() {
		if vec.Good(v) {
			t.Errorf("%v is not good", v)
		}
	}
	// A list that is empty need not be nil.
	if !vec.Good(api.Vec{Kind: api.Int, Null: []bool{}, N: []int64{}, S: make([]string, 0, 3)}) || !vec.Good(api.Vec{Kind: api.Text, Null: []bool{}, N: make([]int64, 0, 3), S: []string{}}) {
		t.Error("a vec of empty lists is good")
	}
	if !vec.Good(api.Vec{Kind: api.Int}) || !vec.Good(api.Vec{Kind: api.Text}) {
		t.Error("a vec of no values is good")
	}
}

func TestLenAtValues(t *testing.T) {
	for _, kind := range []int{api.Int, api.Text} {
		for _, values := range columns(kind) {
			v := byHand(kind, values)
			if got := vec.Len(v); got != len(values) {
				t.Errorf("Len(%v) = %d", v, got)
			}
			if got := vec.Values(v); !slices.Equal(got, values) {
				t.Errorf("Values(%v) = %v", v, got)
			}
			for i, want := range values {
				if got := vec.At(v, i); got != want {
					t.Errorf("At(%v, %d) = %v, not %v", v, i, got, want)
				}
			}
			for _, i := range []int{-1, len(values), len(values) + 1, math.MinInt, math.MaxInt} {
				if got := vec.At(v, i); got != null {
					t.Errorf("At(%v, %d) = %v", v, i, got)
				}
			}
		}
	}
}

func TestLenAtValuesOfNoVec(t *testing.T) {
	for _, v := range badVecs() {
		if got := vec.Len(v); got != 0 {
			t.Errorf("Len(%v) = %d", v, got)
		}
		if got := vec.Values(v); len(got) != 0 {
			t.Errorf("Values(%v) = %v", v, got)
		}
		for _, i := range []int{-1, 0, 1, 2, math.MaxInt} {
			if got := vec.At(v, i); got != null {
				t.Errorf("At(%v, %d) = %v", v, i, got)
			}
		}
	}
}

func TestPick(t *testing.T) {
	for _, kind := range []int{api.Int, api.Text} {
		values := slices.Concat(columns(kind)...)
		v := byHand(kind, values)
		last := len(values) - 1
		for _, places := range [][]int{nil, {}, {0}, {last}, {last, 0}, {2, 2, 1, 2}, {5, 4, 3, 2, 1, 0}, {0, 0, 0, last, last, 0}, make([]int, 3*len(values))} {
			var want []api.Value
			for _, place := range places {
				want = append(want, values[place])
			}
			got, e := vec.Pick(v, places)
			if e != api.OK || !same(got, byHand(kind, want)) {
				t.Errorf("Pick(%v, %v) = %v, error %d", v, places, got, e)
			}
		}
		for _, places := range [][]int{{-1}, {last + 1}, {0, last + 1}, {0, -1, 0}, {math.MinInt}, {1, math.MaxInt}} {
			got, e := vec.Pick(v, places)
			refusedVec(t, fmt.Sprint("Pick", places), got, e, api.ErrArg)
		}
		got, e := vec.Pick(byHand(kind, nil), []int{0})
		refusedVec(t, "Pick of no values", got, e, api.ErrArg)
		if got, e := vec.Pick(byHand(kind, nil), nil); e != api.OK || got.Kind != kind || vec.Len(got) != 0 {
			t.Errorf("Pick of no values no places: %v, error %d", got, e)
		}
	}
	for _, v := range badVecs() {
		for _, places := range [][]int{nil, {0}, {-1}} {
			got, e := vec.Pick(v, places)
			refusedVec(t, fmt.Sprint("Pick of ", v, places), got, e, api.ErrArg)
		}
	}
}

func TestPlaces(t *testing.T) {
	for _, c := range []struct {
		values []api.Value
		want   []int
	}{
		{nil, nil},
		{[]api.Value{n(0)}, nil},
		{[]api.Value{null}, nil},
		{[]api.Value{n(1)}, []int{0}},
		{[]api.Value{n(3), null, n(-1), n(0), n(math.MinInt64), n(math.MaxInt64), null, n(0), n(1 << 32)}, []int{0, 2, 4, 5, 8}},
	} {
		if got := vec.Places(byHand(api.Int, c.values)); !slices.Equal(got, c.want) {
			t.Errorf("Places of %v = %v, not %v", c.values, got, c.want)
		}
	}
	for _, values := range columns(api.Text) {
		if got := vec.Places(byHand(api.Text, values)); len(got) != 0 {
			t.Errorf("Places of %v = %v: no number stands there", values, got)
		}
	}
	for _, v := range badVecs() {
		if got := vec.Places(v); len(got) != 0 {
			t.Errorf("Places(%v) = %v", v, got)
		}
	}
}

func TestJoined(t *testing.T) {
	for _, kind := range []int{api.Int, api.Text} {
		for _, a := range columns(kind) {
			for _, b := range columns(kind) {
				got, e := vec.Joined(byHand(kind, a), byHand(kind, b))
				if e != api.OK || !same(got, byHand(kind, slices.Concat(a, b))) {
					t.Errorf("Joined(%v, %v) = %v, error %d", a, b, got, e)
				}
			}
		}
	}
}

func TestJoinedRefuses(t *testing.T) {
	for _, a := range columns(api.Int) {
		for _, b := range columns(api.Text) {
			v, w := byHand(api.Int, a), byHand(api.Text, b)
			got, e := vec.Joined(v, w)
			refusedVec(t, fmt.Sprint("Joined ", v, w), got, e, api.ErrKind)
			got, e = vec.Joined(w, v)
			refusedVec(t, fmt.Sprint("Joined ", w, v), got, e, api.ErrKind)
		}
	}
	for _, bad := range badVecs() {
		for _, v := range append(goodVecs(), badVecs()...) {
			got, e := vec.Joined(bad, v)
			refusedVec(t, fmt.Sprint("Joined ", bad, v), got, e, api.ErrArg)
			got, e = vec.Joined(v, bad)
			refusedVec(t, fmt.Sprint("Joined ", v, bad), got, e, api.ErrArg)
		}
	}
}

func TestTable(t *testing.T) {
	a := []api.Value{n(3), null, n(-1)}
	b := []api.Value{null, s("x"), s("")}
	rows, e := vec.Table([]api.Vec{byHand(api.Int, a), byHand(api.Text, b), byHand(api.Int, a)})
	want := [][]api.Value{{a[0], b[0], a[0]}, {a[1], b[1], a[1]}, {a[2], b[2], a[2]}}
	if e != api.OK || !slices.EqualFunc(rows, want, slices.Equal) {
		t.Errorf("Table: %v, error %d", rows, e)
	}
	for _, v := range goodVecs() {
		rows, e := vec.Table([]api.Vec{v})
		if e != api.OK || len(rows) != vec.Len(v) {
			t.Errorf("Table of %v: %v, error %d", v, rows, e)
		}
		for i, row := range rows {
			if len(row) != 1 || row[0] != vec.At(v, i) {
				t.Errorf("Table of %v: row %d is %v", v, i, row)
			}
		}
	}
	for _, columns := range [][]api.Vec{nil, {}, {byHand(api.Int, nil), byHand(api.Text, nil)}} {
		if rows, e := vec.Table(columns); e != api.OK || len(rows) != 0 {
			t.Errorf("Table(%v) = %v, error %d", columns, rows, e)
		}
	}
}

func TestTableTakesAnyNumberOfColumns(t *testing.T) {
	columns := slices.Repeat([]api.Vec{byHand(api.Int, []api.Value{n(1), n(2)})}, 3*api.MaxColumns)
	rows, e := vec.Table(columns)
	if e != api.OK || len(rows) != 2 || len(rows[0]) != len(columns) || len(rows[1]) != len(columns) || rows[1][len(columns)-1] != n(2) {
		t.Errorf("Table of %d columns: %v, error %d", len(columns), rows, e)
	}
}

func TestTableRefuses(t *testing.T) {
	none := byHand(api.Int, nil)
	one := byHand(api.Int, []api.Value{n(1)})
	two := byHand(api.Text, []api.Value{s("a"), null})
	bad := [][]api.Vec{{one, two}, {two, one}, {none, one}, {one, none}, {one, one, two}, {two, two, none}}
	for _, v := range badVecs() {
		bad = append(bad, []api.Vec{v}, []api.Vec{v, none}, []api.Vec{none, v}, []api.Vec{one, v}, []api.Vec{two, two, v}, []api.Vec{v, v})
	}
	for _, columns := range bad {
		if rows, e := vec.Table(columns); e != api.ErrArg || rows != nil {
			t.Errorf("Table(%v) = %v, error %d", columns, rows, e)
		}
	}
}

func TestManyValues(t *testing.T) {
	size := 5 * api.MaxRows
	var values []api.Value
	for i := range size {
		values = append(values, n(int64(i%3)))
	}
	v := mustFrom(t, api.Int, values...)
	if !slices.Equal(vec.Values(v), values) || vec.Len(v) != size {
		t.Error("values of a long vec")
	}
	places := vec.Places(v)
	w, e := vec.Pick(v, places)
	if e != api.OK || len(places) != size-(size+2)/3 || len(vec.Places(w)) != len(places) {
		t.Errorf("of %d values %d places, error %d", size, len(places), e)
	}
	if rows, e := vec.Table([]api.Vec{v, v}); e != api.OK || len(rows) != size {
		t.Errorf("rows of a long vec: %d, error %d", len(rows), e)
	}
}
