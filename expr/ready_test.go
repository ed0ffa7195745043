package expr_test

import (
	"math"
	"math/rand"
	"testing"

	"tallyhouse/api"
	"tallyhouse/expr"
)

func TestReadyAnswersAsEval(t *testing.T) {
	each(t, 10, func(r *rand.Rand, e api.Expr) {
		value := expr.Ready(e)
		for range 3 {
			row := anyRow(r, r.Intn(7))
			if got, want := value(row), expr.Eval(e, row); got != want {
				t.Fatalf("%v of %v: %v, not %v", e, row, got, want)
			}
		}
	})
}

func TestReadyOfWhatIsNotBuilt(t *testing.T) {
	for _, list := range []map[string]api.Expr{notBuilt(), endless()} {
		for what, e := range list {
			if v := expr.Ready(e)([]api.Value{n(1)}); v != null {
				t.Errorf("%s: %v", what, v)
			}
		}
	}
}

func TestReadyDoesNotKeepTheExpression(t *testing.T) {
	e := of(api.If, col(0), of(api.Add, col(1), num(5)), txt("a"))
	value := expr.Ready(e)
	spoil(e.Args)
	if v := value([]api.Value{n(1), n(2)}); v != n(7) {
		t.Errorf("it became %v", v)
	}
}

func TestArity(t *testing.T) {
	for op, count := range parts {
		if got := expr.Arity(op); got != count {
			t.Errorf("operator %d has %d parts, not %d", op, got, count)
		}
	}
	for _, op := range []int{0, -1, 22, math.MaxInt, math.MinInt} {
		if got := expr.Arity(op); got != -1 {
			t.Errorf("operator %d has %d parts", op, got)
		}
	}
}
