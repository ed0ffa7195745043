package pack_test

import (
	"math"
	"slices"
	"testing"

	"tallyhouse/api"
	"tallyhouse/cell"
	"tallyhouse/pack"
)

func TestAt(t *testing.T) {
	for _, a := range smallSamples() {
		for _, scheme := range a.schemes() {
			packed := spelled(a, scheme)
			for i, want := range a.values {
				if got, e := pack.At(packed, i); e != api.OK || got != want {
					t.Errorf("At %d of %v by scheme %d: %v, error %d", i, a.values, scheme, got, e)
				}
			}
			for _, i := range []int{-1, len(a.values), len(a.values) + 1, math.MinInt, math.MaxInt} {
				if got, e := pack.At(packed, i); e != api.ErrArg || got != null {
					t.Errorf("At %d of %v by scheme %d: %v, error %d", i, a.values, scheme, got, e)
				}
			}
		}
	}
}

func TestAtOfManyValues(t *testing.T) {
	many := sample{api.Int, made(api.MaxRows, func(i int) api.Value { return n(int64(i * i)) })}
	for _, scheme := range many.schemes() {
		packed := spelled(many, scheme)
		for _, i := range []int{0, 1, 255, 256, 4094, 4095} {
			if got, e := pack.At(packed, i); e != api.OK || got != many.values[i] {
				t.Errorf("At %d by scheme %d: %v, error %d", i, scheme, got, e)
			}
		}
	}
}

func TestFindByHand(t *testing.T) {
	numbered := sample{api.Int, []api.Value{n(5), null, n(3), n(9), n(3), n(-1)}}
	named := sample{api.Text, []api.Value{s("b"), s("a"), null, s("ab"), s(""), s("b")}}
	for _, c := range []struct {
		a    sample
		op   int
		v    api.Value
		want []int
	}{
		{numbered, api.Eq, n(3), []int{2, 4}},
		{numbered, api.Ne, n(3), []int{0, 3, 5}},
		{numbered, api.Lt, n(3), []int{5}},
		{numbered, api.Le, n(3), []int{2, 4, 5}},
		{numbered, api.Gt, n(3), []int{0, 3}},
		{numbered, api.Ge, n(3), []int{0, 2, 3, 4}},
		{numbered, api.Eq, n(4), nil},
		{numbered, api.Ne, null, nil},
		{numbered, api.Eq, null, nil},
		{numbered, api.Lt, s(""), []int{0, 2, 3, 4, 5}},
		{numbered, api.Ge, s(""), nil},
		{named, api.Eq, s("b"), []int{0, 5}},
		{named, api.Ne, s("b"), []int{1, 3, 4}},
		{named, api.Lt, s("ab"), []int{1, 4}},
		{named, api.Le, s("ab"), []int{1, 3, 4}},
		{named, api.Gt, s("a"), []int{0, 3, 5}},
		{named, api.Ge, s("a"), []int{0, 1, 3, 5}},
		{named, api.Gt, n(math.MaxInt64), []int{0, 1, 3, 4, 5}},
		{named, api.Lt, s(long(api.MaxText + 1)), []int{0, 1, 3, 4, 5}},
		// What is handed in counts for what Clean makes of it.
		{numbered, api.Eq, api.Value{Kind: api.Int, N: 3, S: "x"}, []int{2, 4}},
		{named, api.Eq, api.Value{Kind: api.Text, N: 3, S: "b"}, []int{0, 5}},
		{numbered, api.Ne, api.Value{Kind: 7, N: 3, S: "x"}, nil},
	} {
		for _, scheme := range c.a.schemes() {
			got, e := pack.Find(spelled(c.a, scheme), c.op, c.v)
			if e != api.OK || !slices.Equal(got, c.want) {
				t.Errorf("Find by %d of %v in %v, scheme %d: %v, error %d, not %v", c.op, c.v, c.a.values, scheme, got, e, c.want)
			}
		}
	}
}

func TestFindAsTested(t *testing.T) {
	asked := []api.Value{null, n(0), n(7), n(-1), n(1000), n(math.MinInt64), n(math.MaxInt64), s(""), s("a"), s("ab"), s("12"), s(long(api.MaxText))}
	for _, a := range samples() {
		for _, scheme := range a.schemes() {
			packed := spelled(a, scheme)
			if len(packed) > 20000 {
				continue
			}
			for op := api.Eq; op <= api.Ge; op++ {
				for _, v := range asked {
					var want []int
					for i, x := range a.values {
						if cell.True(cell.Test(op, x, v)) {
							want = append(want, i)
						}
					}
					if got, e := pack.Find(packed, op, v); e != api.OK || !slices.Equal(got, want) {
						t.Errorf("Find by %d of %.50v in %.200v, scheme %d: %.200v, error %d", op, v, a.values, scheme, got, e)
					}
				}
			}
		}
	}
}

func TestFindRefuses(t *testing.T) {
	for _, a := range smallSamples() {
		for _, op := range []int{math.MinInt, -api.Eq, -1, 0, api.Mod, api.Cat, api.And, 1<<32 + api.Eq, math.MaxInt} {
			for _, v := range []api.Value{null, n(7), s("a")} {
				if got, e := pack.Find(spelled(a, plain), op, v); e != api.ErrArg || got != nil {
					t.Errorf("Find by %d in %v: %v, error %d", op, a.values, got, e)
				}
			}
		}
	}
}

func TestSpan(t *testing.T) {
	for _, c := range []struct {
		a               sample
		least, greatest api.Value
		nulls           int
	}{
		{sample{api.Int, nil}, null, null, 0},
		{sample{api.Text, nil}, null, null, 0},
		{sample{api.Int, make([]api.Value, 9)}, null, null, 9},
		{sample{api.Text, make([]api.Value, api.MaxRows)}, null, null, api.MaxRows},
		{sample{api.Int, numbers(7)}, n(7), n(7), 0},
		{sample{api.Int, numbers(0)}, n(0), n(0), 0},
		{sample{api.Int, []api.Value{null, n(0), null}}, n(0), n(0), 2},
		{sample{api.Int, []api.Value{n(5), null, n(3), n(9), n(3)}}, n(3), n(9), 1},
		{sample{api.Int, numbers(-5, -3, -9)}, n(-9), n(-3), 0},
		{sample{api.Int, numbers(0, math.MinInt64, math.MaxInt64, 1)}, n(math.MinInt64), n(math.MaxInt64), 0},
		{sample{api.Text, texts("")}, s(""), s(""), 0},
		{sample{api.Text, []api.Value{null, s("b"), s(""), s("ab"), null}}, s(""), s("b"), 2},
		{sample{api.Text, texts("b", "ab", "a", "\xff", "\x00")}, s("\x00"), s("\xff"), 0},
	} {
		for _, scheme := range c.a.schemes() {
			least, greatest, nulls, e := pack.Span(spelled(c.a, scheme))
			if e != api.OK || least != c.least || greatest != c.greatest || nulls != c.nulls {
				t.Errorf("Span of %.200v, scheme %d: %v, %v, %d, error %d", c.a.values, scheme, least, greatest, nulls, e)
			}
		}
	}
}
