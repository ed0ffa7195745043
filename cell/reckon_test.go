package cell_test

import (
	"math"
	"math/big"
	"testing"

	"tallyhouse/api"
	"tallyhouse/cell"
)

// exact: what the operator makes of x and y, reckoned without a bound.
func exact(op int, x, y int64) api.Value {
	a, b, r := big.NewInt(x), big.NewInt(y), new(big.Int)
	switch op {
	case api.Add:
		r.Add(a, b)
	case api.Sub:
		r.Sub(a, b)
	case api.Mul:
		r.Mul(a, b)
	default:
		if y == 0 {
			return null
		}
		if op == api.Div {
			r.Quo(a, b)
		} else {
			r.Rem(a, b)
		}
	}
	if !r.IsInt64() {
		return null
	}
	return n(r.Int64())
}

// edges: numbers near the ends, near powers of two, and near the root of the greatest.
func edges() []int64 {
	out := []int64{math.MinInt64, math.MinInt64 + 1, math.MaxInt64, math.MaxInt64 - 1, 3037000499, 3037000500, -3037000499, -3037000500, 7, -7}
	for _, bit := range []int{0, 1, 2, 15, 30, 31, 32, 33, 61, 62} {
		for d := int64(-1); d <= 1; d++ {
			out = append(out, 1<<bit+d, -1<<bit+d)
		}
	}
	return out
}

func TestReckon(t *testing.T) {
	for op := api.Add; op <= api.Mod; op++ {
		for _, x := range edges() {
			for _, y := range edges() {
				want := exact(op, x, y)
				if got := cell.Reckon(op, n(x), n(y)); got != want {
					t.Errorf("Reckon(%d, %d, %d) = %v, not %v", op, x, y, got, want)
				}
			}
		}
	}
}

func TestReckonByHand(t *testing.T) {
	const least, most = math.MinInt64, math.MaxInt64
	for _, c := range []struct {
		op   int
		x, y int64
		want api.Value
	}{
		{api.Add, most, 1, null}, {api.Add, least, -1, null}, {api.Add, least, most, n(-1)}, {api.Add, least, least, null},
		{api.Sub, least, 1, null}, {api.Sub, 0, least, null}, {api.Sub, -1, least, n(most)},
		{api.Mul, -1, least, null}, {api.Mul, least, -1, null}, {api.Mul, 0, least, n(0)}, {api.Mul, least, 1, n(least)}, {api.Mul, 1 << 32, -1 << 31, n(least)},
		{api.Div, 7, 2, n(3)}, {api.Div, -7, 2, n(-3)}, {api.Div, 7, -2, n(-3)}, {api.Div, -7, -2, n(3)}, {api.Div, least, -1, null}, {api.Div, 0, 0, null}, {api.Div, 5, 0, null},
		{api.Mod, 7, 2, n(1)}, {api.Mod, -7, 2, n(-1)}, {api.Mod, 7, -2, n(1)}, {api.Mod, -7, -2, n(-1)}, {api.Mod, least, -1, n(0)}, {api.Mod, 0, 0, null}, {api.Mod, 5, 0, null},
	} {
		if got := cell.Reckon(c.op, n(c.x), n(c.y)); got != c.want {
			t.Errorf("Reckon(%d, %d, %d) = %v, not %v", c.op, c.x, c.y, got, c.want)
		}
	}
}

func TestReckonCountsCleanValues(t *testing.T) {
	for op := api.Add; op <= api.Mod; op++ {
		eachPair(func(_, _ int, a, b api.Value) {
			want := null
			if a.Kind == api.Int && b.Kind == api.Int {
				want = exact(op, a.N, b.N)
			}
			if got := cell.Reckon(op, a, b); got != want {
				t.Errorf("Reckon(%d, %v, %v) = %v, not %v", op, a, b, got, want)
			}
		})
	}
}

func TestReckonWithOtherOps(t *testing.T) {
	for _, op := range otherOps(api.Add, api.Mod) {
		if got := cell.Reckon(op, n(6), n(3)); got != null {
			t.Errorf("Reckon(%d, 6, 3) = %v", op, got)
		}
	}
}
