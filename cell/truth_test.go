package cell_test

import (
	"math"
	"testing"

	"tallyhouse/api"
	"tallyhouse/cell"
)

// truths: true ones, false ones, and values that are neither.
func truths() (yes, no, neither []api.Value) {
	for _, x := range []int64{1, -1, 2, math.MinInt64, math.MaxInt64, 1 << 32} {
		yes = append(yes, soiled(n(x))...)
	}
	no = soiled(n(0))
	neither = append(soiled(null), soiled(s(""))...)
	neither = append(neither, soiled(s("1"))...)
	neither = append(neither, soiled(s("0"))...)
	return yes, no, neither
}

func TestTrueAndNot(t *testing.T) {
	yes, no, neither := truths()
	check := func(l []api.Value, is bool, not api.Value) {
		for _, v := range l {
			if cell.True(v) != is {
				t.Errorf("True(%v) = %v", v, !is)
			}
			if got := cell.Not(v); got != not {
				t.Errorf("Not(%v) = %v, not %v", v, got, not)
			}
		}
	}
	check(yes, true, n(0))
	check(no, false, n(1))
	check(neither, false, null)
}

func TestBoth(t *testing.T) {
	yes, no, neither := truths()
	check := func(as, bs []api.Value, and, or api.Value) {
		for _, a := range as {
			for _, b := range bs {
				if got := cell.Both(api.And, a, b); got != and {
					t.Errorf("Both(And, %v, %v) = %v, not %v", a, b, got, and)
				}
				if got := cell.Both(api.Or, a, b); got != or {
					t.Errorf("Both(Or, %v, %v) = %v, not %v", a, b, got, or)
				}
			}
		}
	}
	check(yes, yes, n(1), n(1))
	check(yes, no, n(0), n(1))
	check(no, yes, n(0), n(1))
	check(no, no, n(0), n(0))
	check(yes, neither, null, n(1))
	check(neither, yes, null, n(1))
	check(no, neither, n(0), null)
	check(neither, no, n(0), null)
	check(neither, neither, null, null)
}

func TestBothWithOtherOps(t *testing.T) {
	for _, op := range otherOps(api.And, api.Or) {
		for _, v := range []api.Value{n(0), n(1)} {
			if got := cell.Both(op, v, v); got != null {
				t.Errorf("Both(%d, %v, %v) = %v", op, v, v, got)
			}
		}
	}
}
