package expr_test

import (
	"math"
	"math/rand"
	"slices"
	"testing"

	"tallyhouse/api"
	"tallyhouse/cell"
	"tallyhouse/expr"
)

func TestStrict(t *testing.T) {
	x, y, c := col(1), col(2), []int{1}
	for _, strict := range []api.Expr{
		x, con(null), num(0), txt(""), txt("a"), con(api.Value{Kind: 7, N: 1}),
		of(api.Neg, x), of(api.Not, x), of(api.Len, x), of(api.Neg, con(null)),
		of(api.Add, x, y), of(api.Add, y, x), of(api.Sub, x, y), of(api.Mul, y, x), of(api.Div, x, y), of(api.Mod, y, x),
		of(api.Eq, x, y), of(api.Ne, y, x), of(api.Lt, x, num(1)), of(api.Le, num(1), x), of(api.Gt, x, x), of(api.Ge, y, con(null)),
		of(api.Cat, x, y), of(api.Cat, txt("a"), x),
		of(api.Not, of(api.Eq, of(api.Add, of(api.Neg, x), num(1)), y)),
		of(api.And, x, y), of(api.And, y, x), of(api.And, y, num(0)), of(api.And, of(api.And, y, of(api.Gt, x, num(1))), y),
		of(api.Or, x, x), of(api.Or, x, num(0)), of(api.Or, of(api.And, y, x), con(null)), of(api.Or, of(api.Eq, x, y), of(api.Lt, x, y)),
		of(api.And, of(api.Or, x, x), y),
	} {
		if !expr.Strict(strict, c) {
			t.Errorf("%v is strict", strict)
		}
	}
	for _, loose := range []api.Expr{
		y, num(1), num(-1), num(math.MinInt64),
		of(api.IsNull, x), of(api.IsNull, con(null)), of(api.Not, of(api.IsNull, x)), of(api.Neg, of(api.IsNull, x)),
		of(api.If, x, x, x), of(api.If, x, con(null), con(null)), of(api.If, num(0), num(1), num(0)),
		of(api.Neg, num(0)), of(api.Not, num(1)), of(api.Not, num(0)), of(api.Not, y), of(api.Add, y, y), of(api.Eq, y, num(0)), of(api.Eq, num(1), num(2)),
		of(api.Len, y), of(api.Cat, y, txt("a")),
		of(api.And, y, y), of(api.And, num(1), y), of(api.Or, x, y), of(api.Or, y, x), of(api.Or, x, num(1)),
		// What an And, an Or or an If comes to is not certainly null, even of nulls.
		of(api.Not, of(api.And, x, x)), of(api.Neg, of(api.Or, x, x)), of(api.Add, of(api.And, x, con(null)), y), of(api.Eq, of(api.If, x, x, x), y),
	} {
		if expr.Strict(loose, c) {
			t.Errorf("%v is not strict", loose)
		}
	}
}

func TestStrictOfOtherColumns(t *testing.T) {
	e := of(api.Or, of(api.Eq, col(0), num(1)), of(api.Eq, col(2), num(1)))
	for _, c := range []struct {
		columns []int
		want    bool
	}{
		{nil, false}, {[]int{0}, false}, {[]int{2}, false}, {[]int{1, 3}, false},
		{[]int{0, 2}, true}, {[]int{2, 1, 0}, true}, {[]int{0, 0, 2, 2}, true}, {[]int{-1, math.MinInt, 2, math.MaxInt, 0}, true},
	} {
		if got := expr.Strict(e, c.columns); got != c.want {
			t.Errorf("Strict over %v: %v", c.columns, got)
		}
	}
}

func TestWhatIsStrictIsNotTrue(t *testing.T) {
	strict := 0
	each(t, 7, func(r *rand.Rand, e api.Expr) {
		columns := r.Perm(6)[:1+r.Intn(5)]
		if !expr.Strict(e, columns) {
			return
		}
		strict++
		row := anyRow(r, 6)
		for _, column := range columns {
			row[column] = null
		}
		if cell.True(expr.Eval(e, row)) {
			t.Fatalf("%v is true of %v, and was strict over %v", e, row, columns)
		}
	})
	if strict < 1000 {
		t.Errorf("only %d were strict", strict)
	}
}

func TestFold(t *testing.T) {
	x, y := col(1), col(2)
	two := of(api.Add, num(1), num(1))
	for _, c := range []struct {
		e, want api.Expr
	}{
		{x, x}, {num(3), num(3)}, {con(null), con(null)},
		{two, num(2)},
		{of(api.Neg, num(3)), num(-3)}, {of(api.Neg, num(math.MinInt64)), con(null)}, {of(api.Not, num(3)), num(0)}, {of(api.IsNull, con(null)), num(1)}, {of(api.Len, txt("abc")), num(3)},
		{of(api.Mod, num(7), num(0)), con(null)}, {of(api.Lt, num(7), txt("")), num(1)}, {of(api.Cat, txt("a"), txt("b")), txt("ab")}, {of(api.Cat, txt(long(600)), txt(long(600))), con(null)},
		{of(api.And, con(null), num(0)), num(0)}, {of(api.And, con(null), num(1)), con(null)}, {of(api.And, num(7), num(7)), num(1)},
		{of(api.Or, con(null), num(7)), num(1)}, {of(api.Or, num(7), num(0)), num(1)}, {of(api.Or, con(null), num(0)), con(null)},
		{of(api.If, num(1), num(7), num(8)), num(7)}, {of(api.If, con(null), num(7), txt("8")), txt("8")},
		{of(api.Add, x, two), of(api.Add, x, num(2))}, {of(api.Add, of(api.Add, x, num(1)), num(1)), of(api.Add, of(api.Add, x, num(1)), num(1))},
		{of(api.Neg, of(api.Neg, of(api.Neg, num(1)))), num(-1)},
		{of(api.And, x, num(0)), num(0)}, {of(api.And, num(0), x), num(0)}, {of(api.And, x, of(api.Sub, num(1), num(1))), num(0)},
		{of(api.And, of(api.And, x, num(0)), y), num(0)}, {of(api.Not, of(api.And, x, num(0))), num(1)},
		{of(api.And, x, num(1)), of(api.And, x, num(1))}, {of(api.And, con(null), x), of(api.And, con(null), x)}, {of(api.And, txt(""), x), of(api.And, txt(""), x)},
		{of(api.Or, x, num(-4)), num(1)}, {of(api.Or, num(9), x), num(1)}, {of(api.Or, of(api.Add, num(1), num(1)), x), num(1)},
		{of(api.Or, x, num(0)), of(api.Or, x, num(0))}, {of(api.Or, con(null), x), of(api.Or, con(null), x)}, {of(api.Or, txt("a"), x), of(api.Or, txt("a"), x)},
		{of(api.If, num(2), x, y), x}, {of(api.If, num(0), x, y), y}, {of(api.If, con(null), x, y), y}, {of(api.If, txt("a"), x, y), y},
		{of(api.If, of(api.Lt, num(1), num(2)), two, x), num(2)}, {of(api.If, of(api.Gt, num(1), num(2)), two, of(api.Neg, x)), of(api.Neg, x)},
		{of(api.If, x, num(1), num(1)), of(api.If, x, num(1), num(1))}, {of(api.If, x, two, two), of(api.If, x, num(2), num(2))},
		{of(api.Mul, x, num(0)), of(api.Mul, x, num(0))}, {of(api.IsNull, x), of(api.IsNull, x)}, {of(api.Add, x, con(null)), of(api.Add, x, con(null))}, {of(api.Eq, x, x), of(api.Eq, x, x)},
		{of(api.If, of(api.Or, x, num(1)), of(api.And, y, num(0)), x), num(0)},
		{api.Expr{Op: api.And, Args: []api.Expr{x, con(api.Value{Kind: api.Int, S: "left over"})}}, num(0)},
		{api.Expr{Op: api.And, Args: []api.Expr{x, con(api.Value{Kind: 5})}}, of(api.And, x, con(null))},
		{of(api.Or, x, con(api.Value{Kind: 5, N: 1})), of(api.Or, x, con(null))},
	} {
		if got := expr.Fold(c.e); !same(got, c.want) {
			t.Errorf("Fold(%v) = %v, not %v", c.e, got, c.want)
		}
	}
}

// folds: is there a node in e that could be folded?
func folds(e api.Expr) bool {
	isConst := func(e api.Expr) bool { return e.Op == api.Const }
	constants := 0
	for _, part := range e.Args {
		if folds(part) {
			return true
		}
		if isConst(part) {
			constants++
		}
	}
	switch {
	case len(e.Args) > 0 && constants == len(e.Args):
		return true
	case e.Op == api.And:
		return slices.ContainsFunc(e.Args, func(part api.Expr) bool { return isConst(part) && part.V == n(0) })
	case e.Op == api.Or:
		return slices.ContainsFunc(e.Args, func(part api.Expr) bool { return isConst(part) && cell.True(part.V) })
	}
	return e.Op == api.If && isConst(e.Args[0])
}

func TestFoldOfMany(t *testing.T) {
	changed := 0
	each(t, 8, func(r *rand.Rand, e api.Expr) {
		f := expr.Fold(e)
		nodes, height := expr.Size(e)
		less, low := expr.Size(f)
		if less > nodes || low > height {
			t.Fatalf("Fold(%v) = %v is larger", e, f)
		}
		if folds(f) || !same(expr.Fold(f), f) {
			t.Fatalf("Fold(%v) = %v folds further", e, f)
		}
		if !folds(e) && !same(e, f) {
			t.Fatalf("Fold(%v) = %v", e, f)
		}
		if !same(e, f) {
			changed++
		}
		for range 3 {
			row := anyRow(r, r.Intn(7))
			if expr.Eval(f, row) != expr.Eval(e, row) {
				t.Fatalf("Fold(%v) = %v is another one of %v", e, f, row)
			}
		}
	})
	if changed < 5000 {
		t.Errorf("only %d were changed", changed)
	}
}
