package expr_test

import (
	"math"
	"math/rand"
	"slices"
	"testing"

	"tallyhouse/api"
	"tallyhouse/cell"
	"tallyhouse/expr"
)

func TestColumns(t *testing.T) {
	for _, c := range []struct {
		e    api.Expr
		want []int
	}{
		{num(1), nil},
		{of(api.Add, num(1), api.Expr{Op: api.Const, N: 4}), nil},
		{col(0), []int{0}},
		{col(math.MaxInt), []int{math.MaxInt}},
		{of(api.Add, col(7), of(api.Add, col(2), col(7))), []int{2, 7}},
		{of(api.If, col(9), of(api.Neg, col(0)), of(api.Cat, col(10), of(api.IsNull, col(9)))), []int{0, 9, 10}},
		{of(api.Eq, col(3), col(3)), []int{3}},
		{wide(400), []int{0}},
	} {
		if got := expr.Columns(c.e); !slices.Equal(got, c.want) {
			t.Errorf("Columns(%v) = %v, not %v", c.e, got, c.want)
		}
	}
}

func TestMoved(t *testing.T) {
	for _, c := range []struct {
		e    api.Expr
		to   []int
		want api.Expr
	}{
		{num(1), nil, num(1)},
		{num(1), []int{3}, num(1)},
		{col(0), []int{5}, col(5)},
		{col(1), []int{5, 0}, col(0)},
		{col(0), []int{math.MaxInt}, col(math.MaxInt)},
		{of(api.Add, col(0), of(api.Neg, col(1))), []int{1, 0}, of(api.Add, col(1), of(api.Neg, col(0)))},
		{of(api.If, col(0), col(1), col(0)), []int{4, 4}, of(api.If, col(4), col(4), col(4))},
	} {
		got, err := expr.Moved(c.e, c.to)
		if err != api.OK || !same(got, c.want) {
			t.Errorf("Moved(%v, %v) = %v, error %d", c.e, c.to, got, err)
		}
	}
	for what, c := range map[string]struct {
		e  api.Expr
		to []int
	}{
		"a column of none":             {col(0), nil},
		"a column behind the last":     {of(api.Add, col(0), col(2)), []int{0, 1}},
		"to below 0":                   {col(0), []int{-1}},
		"to below 0, where none looks": {col(0), []int{0, -1}},
		"to below 0, and no column":    {num(1), []int{math.MinInt}},
	} {
		got, err := expr.Moved(c.e, c.to)
		refused(t, what, got, err, api.ErrArg)
	}
}

func TestMovedMeansTheSameOverMovedColumns(t *testing.T) {
	each(t, 4, func(r *rand.Rand, e api.Expr) {
		row, to := anyRow(r, 6), r.Perm(9)[:6]
		there := make([]api.Value, 9)
		for i, place := range to {
			there[place] = row[i]
		}
		moved, err := expr.Moved(e, to)
		if err != api.OK || expr.Eval(moved, there) != expr.Eval(e, row) {
			t.Fatalf("Moved(%v, %v) = %v, error %d", e, to, moved, err)
		}
	})
}

func TestPut(t *testing.T) {
	sum := of(api.Add, col(5), num(1))
	for _, c := range []struct {
		e    api.Expr
		by   []api.Expr
		want api.Expr
	}{
		{num(1), nil, num(1)},
		{num(1), []api.Expr{sum}, num(1)},
		{col(0), []api.Expr{sum}, sum},
		{of(api.Mul, col(0), col(1)), []api.Expr{num(6), sum}, of(api.Mul, num(6), sum)},
		{of(api.Mul, col(1), of(api.Neg, col(1))), []api.Expr{num(6), sum}, of(api.Mul, sum, of(api.Neg, sum))},
		// What is put in is not looked at again.
		{of(api.Mul, col(0), col(1)), []api.Expr{col(1), col(0)}, of(api.Mul, col(1), col(0))},
		{col(0), []api.Expr{col(9)}, col(9)},
	} {
		got, err := expr.Put(c.e, c.by)
		if err != api.OK || !same(got, c.want) {
			t.Errorf("Put(%v, %v) = %v, error %d", c.e, c.by, got, err)
		}
	}
}

func TestPutRefuses(t *testing.T) {
	huge := of(api.Add, wide(200), wide(199))
	for what, c := range map[string]struct {
		e    api.Expr
		by   []api.Expr
		want api.Errno
	}{
		"a column of none":                    {col(0), nil, api.ErrArg},
		"a column behind the last":            {of(api.Add, col(0), col(2)), []api.Expr{num(1), num(2)}, api.ErrArg},
		"what is not built":                   {col(0), []api.Expr{col(-1)}, api.ErrArg},
		"what is not built, where none looks": {col(0), []api.Expr{num(1), high(41)}, api.ErrArg},
		"what is not built, and no column":    {num(1), []api.Expr{{}}, api.ErrArg},
		"too high, with a wrong one":          {of(api.Neg, col(0)), []api.Expr{high(40), {}}, api.ErrArg},
		"too high, with no such column":       {of(api.Add, col(0), col(1)), []api.Expr{high(40)}, api.ErrArg},
		"one too high":                        {of(api.Neg, col(0)), []api.Expr{high(40)}, api.ErrLarge},
		"one node too many":                   {of(api.Neg, col(0)), []api.Expr{huge}, api.ErrLarge},
		"twice too many":                      {of(api.Add, col(0), col(0)), []api.Expr{wide(200)}, api.ErrLarge},
		"far too many":                        {wide(400), []api.Expr{huge}, api.ErrLarge},
	} {
		got, err := expr.Put(c.e, c.by)
		refused(t, what, got, err, c.want)
	}
	for what, c := range map[string]struct {
		e, by         api.Expr
		nodes, height int
	}{
		"as high as may be":   {of(api.Neg, col(0)), high(39), 40, 40},
		"as many as may be":   {of(api.Neg, col(0)), wide(399), 400, 10},
		"twice as may be":     {of(api.Add, col(0), of(api.Neg, col(0))), wide(199), 400, 10},
		"itself, and no more": {col(0), huge, 400, 9},
	} {
		got, err := expr.Put(c.e, []api.Expr{c.by})
		if nodes, height := expr.Size(got); err != api.OK || nodes != c.nodes || height != c.height {
			t.Errorf("%s: error %d, %d nodes, %d high", what, err, nodes, height)
		}
	}
}

func TestPutMeansWhatIsPutIn(t *testing.T) {
	counts := map[api.Errno]int{}
	each(t, 5, func(r *rand.Rand, e api.Expr) {
		row := anyRow(r, 6)
		var by []api.Expr
		var values []api.Value
		for range 6 {
			by = append(by, random(r, 6))
			values = append(values, expr.Eval(by[len(by)-1], row))
		}
		put, err := expr.Put(e, by)
		counts[err]++
		if err == api.OK && expr.Eval(put, row) != expr.Eval(e, values) {
			t.Fatalf("Put(%v, %v) = %v", e, by, put)
		}
	})
	if counts[api.OK] < 1000 || counts[api.ErrLarge] < 20 || len(counts) > 2 {
		t.Errorf("errors came so often: %v", counts)
	}
}

func TestParts(t *testing.T) {
	or := of(api.Or, of(api.And, num(1), num(2)), num(3))
	for _, c := range []struct {
		e    api.Expr
		want []api.Expr
	}{
		{num(1), []api.Expr{num(1)}},
		{or, []api.Expr{or}},
		{of(api.Not, of(api.And, num(1), num(2))), []api.Expr{of(api.Not, of(api.And, num(1), num(2)))}},
		{of(api.And, num(1), num(2)), []api.Expr{num(1), num(2)}},
		{of(api.And, of(api.And, num(1), or), num(3)), []api.Expr{num(1), or, num(3)}},
		{of(api.And, num(1), of(api.And, or, num(3))), []api.Expr{num(1), or, num(3)}},
		{of(api.And, of(api.And, num(1), num(2)), of(api.And, of(api.And, num(3), num(3)), num(4))), []api.Expr{num(1), num(2), num(3), num(3), num(4)}},
		{api.Expr{Op: api.And, N: 3, V: n(3), Args: []api.Expr{col(1), col(0)}}, []api.Expr{col(1), col(0)}},
	} {
		if got := expr.Parts(c.e); !sameAll(got, c.want) {
			t.Errorf("Parts(%v) = %v, not %v", c.e, got, c.want)
		}
	}
}

func TestAll(t *testing.T) {
	for _, c := range []struct {
		parts []api.Expr
		want  api.Expr
	}{
		{nil, num(1)},
		{[]api.Expr{}, num(1)},
		{[]api.Expr{col(3)}, col(3)},
		{[]api.Expr{col(3), num(2)}, of(api.And, col(3), num(2))},
		{[]api.Expr{col(3), num(2), txt("a"), col(1)}, of(api.And, of(api.And, of(api.And, col(3), num(2)), txt("a")), col(1))},
		{[]api.Expr{of(api.And, num(1), num(2)), of(api.And, num(3), num(4))}, of(api.And, of(api.And, num(1), num(2)), of(api.And, num(3), num(4)))},
		{[]api.Expr{{}, of(api.Add, num(1)), col(-1)}, of(api.And, of(api.And, api.Expr{}, of(api.Add, num(1))), col(-1))},
	} {
		if got := expr.All(c.parts); !same(got, c.want) {
			t.Errorf("All(%v) = %v, not %v", c.parts, got, c.want)
		}
	}
}

func TestAllOfMany(t *testing.T) {
	many := make([]api.Expr, 1<<15)
	for i := range many {
		many[i] = num(int64(i))
	}
	all := expr.All(many)
	for i := len(many) - 1; i > 0; i-- {
		if all.Op != api.And || len(all.Args) != 2 || !same(all.Args[1], many[i]) {
			t.Fatalf("part %d", i)
		}
		all = all.Args[0]
	}
	if !same(all, many[0]) {
		t.Error("the first part")
	}
	if nodes, _ := expr.Size(expr.All(many[:20])); nodes != 39 {
		t.Errorf("all of twenty have %d nodes", nodes)
	}
}

// Joined again the parts of an expression are true where it is, and are the
// same parts.
func TestAllOfParts(t *testing.T) {
	each(t, 6, func(r *rand.Rand, e api.Expr) {
		list := expr.Parts(e)
		all := expr.All(list)
		if nodes, _ := expr.Size(all); nodes > api.MaxNodes {
			t.Fatalf("All(Parts(%v)) is not built", e)
		}
		row := anyRow(r, 6)
		every := true
		for _, part := range list {
			every = every && cell.True(expr.Eval(part, row))
		}
		if e.Op == api.And && expr.Eval(all, row) != expr.Eval(e, row) || cell.True(expr.Eval(e, row)) != every || !sameAll(expr.Parts(all), list) {
			t.Fatalf("Parts(%v) = %v", e, list)
		}
	})
}
