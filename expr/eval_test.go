package expr_test

import (
	"iter"
	"math"
	"math/rand"
	"slices"
	"testing"

	"tallyhouse/api"
	"tallyhouse/cell"
	"tallyhouse/expr"
	"tallyhouse/vec"
)

func TestEval(t *testing.T) {
	row := []api.Value{n(4), s("ab"), null, n(0), n(math.MinInt64), {Kind: api.Int, N: 6, S: "left over"}, {Kind: 8, N: 1}}
	for _, c := range []struct {
		e    api.Expr
		want api.Value
	}{
		{col(0), n(4)}, {col(1), s("ab")}, {col(2), null}, {col(5), n(6)}, {col(6), null},
		{col(7), null}, {col(math.MaxInt), null},
		{num(-3), n(-3)}, {txt("x"), s("x")}, {con(null), null},
		{of(api.Neg, col(0)), n(-4)}, {of(api.Neg, col(3)), n(0)}, {of(api.Neg, col(4)), null}, {of(api.Neg, num(math.MaxInt64)), n(-math.MaxInt64)},
		{of(api.Neg, col(1)), null}, {of(api.Neg, col(2)), null},
		{of(api.Not, col(0)), n(0)}, {of(api.Not, col(3)), n(1)}, {of(api.Not, col(1)), null}, {of(api.Not, col(2)), null},
		{of(api.IsNull, col(0)), n(0)}, {of(api.IsNull, col(1)), n(0)}, {of(api.IsNull, col(2)), n(1)}, {of(api.IsNull, col(9)), n(1)}, {of(api.IsNull, txt("")), n(0)},
		{of(api.Len, col(1)), n(2)}, {of(api.Len, txt("")), n(0)}, {of(api.Len, txt("\x00é")), n(3)}, {of(api.Len, col(0)), null}, {of(api.Len, col(2)), null},
		{of(api.Len, txt(long(1000))), n(1000)},
		{of(api.Add, col(0), num(3)), n(7)}, {of(api.Add, num(math.MaxInt64), num(1)), null}, {of(api.Add, col(0), col(1)), null}, {of(api.Add, col(2), col(0)), null},
		{of(api.Sub, num(1), col(0)), n(-3)}, {of(api.Mul, col(0), num(-5)), n(-20)},
		{of(api.Div, num(-7), num(2)), n(-3)}, {of(api.Mod, num(-7), num(2)), n(-1)}, {of(api.Div, col(0), col(3)), null}, {of(api.Mod, col(0), col(3)), null},
		{of(api.Eq, col(0), num(4)), n(1)}, {of(api.Eq, col(1), txt("a")), n(0)}, {of(api.Eq, col(2), con(null)), null},
		{of(api.Ne, col(0), num(4)), n(0)}, {of(api.Lt, col(0), col(1)), n(1)}, {of(api.Le, col(0), num(3)), n(0)}, {of(api.Gt, col(0), num(3)), n(1)},
		{of(api.Ge, num(3), col(0)), n(0)}, {of(api.Ge, col(0), num(4)), n(1)}, {of(api.Gt, col(0), num(4)), n(0)}, {of(api.Lt, num(3), col(0)), n(1)},
		{of(api.Cat, col(1), txt("c")), s("abc")}, {of(api.Cat, txt("c"), col(1)), s("cab")}, {of(api.Cat, col(1), col(0)), null}, {of(api.Cat, col(1), col(2)), null},
		{of(api.Cat, txt(long(998)), col(1)), s(long(998) + "ab")}, {of(api.Cat, txt(long(999)), col(1)), null},
		{of(api.And, col(2), num(0)), n(0)}, {of(api.And, num(0), col(2)), n(0)}, {of(api.And, col(2), num(1)), null}, {of(api.And, num(5), num(-1)), n(1)}, {of(api.And, col(1), num(1)), null},
		{of(api.Or, col(2), num(7)), n(1)}, {of(api.Or, num(7), col(2)), n(1)}, {of(api.Or, col(2), num(0)), null}, {of(api.Or, num(0), num(0)), n(0)}, {of(api.Or, col(1), num(1)), n(1)},
		{of(api.If, col(0), num(1), num(2)), n(1)}, {of(api.If, col(3), num(1), num(2)), n(2)}, {of(api.If, col(2), num(1), txt("z")), s("z")}, {of(api.If, col(1), num(1), num(2)), n(2)},
		{of(api.If, num(1), con(null), num(2)), null},
	} {
		if v := expr.Eval(c.e, row); v != c.want {
			t.Errorf("Eval(%v) = %v, not %v", c.e, v, c.want)
		}
	}
}

func TestEvalOfALongTextInTheRow(t *testing.T) {
	row := []api.Value{s(long(3000))}
	if v := expr.Eval(col(0), row); v != row[0] {
		t.Error("a column has its value, however long")
	}
	if v := expr.Eval(of(api.Len, col(0)), row); v != n(3000) {
		t.Errorf("its length is %v", v)
	}
}

func TestEvalOfTheHighestAndTheGreatest(t *testing.T) {
	if v := expr.Eval(high(40), nil); v != n(-1) {
		t.Errorf("39 times Neg of 1: %v", v)
	}
	sum := wide(399)
	if v := expr.Eval(sum, []api.Value{n(1)}); v.Kind != api.Int {
		t.Errorf("a sum of many: %v", v)
	}
}

// spelled out: what an expression comes to, by the document's words.
func spelled(e api.Expr, row []api.Value) api.Value {
	var v []api.Value
	for _, part := range e.Args {
		v = append(v, spelled(part, row))
	}
	switch e.Op {
	case api.Col:
		if e.N < len(row) {
			return row[e.N]
		}
		return null
	case api.Const:
		return e.V
	case api.Neg:
		return cell.Reckon(api.Sub, n(0), v[0])
	case api.Not:
		return cell.Not(v[0])
	case api.IsNull:
		return map[bool]api.Value{true: n(1), false: n(0)}[v[0] == null]
	case api.Len:
		if v[0].Kind == api.Text {
			return n(int64(len(v[0].S)))
		}
		return null
	case api.Add, api.Sub, api.Mul, api.Div, api.Mod:
		return cell.Reckon(e.Op, v[0], v[1])
	case api.Eq, api.Ne, api.Lt, api.Le, api.Gt, api.Ge:
		return cell.Test(e.Op, v[0], v[1])
	case api.Cat:
		return cell.Cat(v[0], v[1])
	case api.And, api.Or:
		return cell.Both(e.Op, v[0], v[1])
	}
	if cell.True(v[0]) {
		return v[1]
	}
	return v[2]
}

func TestEvalOfMany(t *testing.T) {
	each(t, 1, func(r *rand.Rand, e api.Expr) {
		row := anyRow(r, r.Intn(8))
		if got, want := expr.Eval(e, row), spelled(e, row); got != want {
			t.Fatalf("Eval(%v, %v) = %v, not %v", e, row, got, want)
		}
	})
}

// Columns 0, 2 and 4 hold numbers, 1, 3 and 5 texts.
func tableOf(r *rand.Rand, rows int) ([][]api.Value, []api.Vec) {
	lists := make([][]api.Value, 6)
	for i := range lists {
		for len(lists[i]) < rows {
			if v := anyValue(r); v == null || v.Kind == 1+i%2 {
				lists[i] = append(lists[i], v)
			}
		}
	}
	table := make([][]api.Value, rows)
	for i := range table {
		for _, list := range lists {
			table[i] = append(table[i], list[i])
		}
	}
	var columns []api.Vec
	for i, list := range lists {
		v, _ := vec.From(1+i%2, list)
		columns = append(columns, v)
	}
	return table, columns
}

// manyThatFit: expressions of which a good share fits over the columns of
// tableOf.
func manyThatFit(t *testing.T) iter.Seq[api.Expr] {
	return func(yield func(api.Expr) bool) {
		going := true
		each(t, 2, func(r *rand.Rand, e api.Expr) {
			going = going && yield(e)
			going = going && yield(ofKind(r, api.Int+r.Intn(2), 4))
		})
	}
}

// ofKind: an expression of this kind over the columns of tableOf.
func ofKind(r *rand.Rand, kind, height int) api.Expr {
	if height == 1 {
		return col(2*r.Intn(3) + kind - 1)
	}
	sub := func(kind int) api.Expr { return ofKind(r, kind, height-1) }
	switch r.Intn(6) {
	case 0:
		return con(null)
	case 1:
		return of(api.If, sub(api.Int), sub(kind), sub(kind))
	}
	if kind == api.Text {
		return of(api.Cat, sub(kind), sub(kind))
	}
	switch r.Intn(5) {
	case 0:
		return of(api.Len, sub(api.Text))
	case 1:
		side := api.Int + r.Intn(2)
		return of(api.Eq+r.Intn(6), sub(side), sub(side))
	case 2:
		return of(api.And+r.Intn(2), sub(kind), sub(kind))
	case 3:
		return of([]int{api.Neg, api.Not, api.IsNull}[r.Intn(3)], sub(kind))
	}
	return of(api.Add+r.Intn(5), sub(kind), sub(kind))
}

func TestOver(t *testing.T) {
	kinds := []int{api.Int, api.Text, api.Int, api.Text, api.Int, api.Text}
	r := rand.New(rand.NewSource(3))
	seen := map[api.Errno]int{}
	for e := range manyThatFit(t) {
		table, columns := tableOf(r, r.Intn(4))
		kind, want := expr.Kind(e, kinds)
		v, err := expr.Over(e, columns, len(table))
		seen[err]++
		if err != want {
			t.Fatalf("Over(%v): error %d, not %d", e, err, want)
		}
		if err != api.OK {
			if v.Kind != 0 || v.Null != nil || v.N != nil || v.S != nil {
				t.Fatalf("Over(%v): %v beside error %d", e, v, err)
			}
			continue
		}
		if kind == api.Null {
			kind = api.Int
		}
		var values []api.Value
		for _, row := range table {
			values = append(values, expr.Eval(e, row))
		}
		if !vec.Good(v) || v.Kind != kind || !slices.Equal(vec.Values(v), values) {
			t.Fatalf("Over(%v) = %v, not %v", e, v, values)
		}
	}
	if seen[api.OK] < 1000 || seen[api.ErrKind] < 1000 {
		t.Errorf("errors came so often: %v", seen)
	}
}

func TestOverOfNoColumns(t *testing.T) {
	v, err := expr.Over(num(7), nil, 3)
	if err != api.OK || v.Kind != api.Int || !slices.Equal(vec.Values(v), []api.Value{n(7), n(7), n(7)}) {
		t.Errorf("a constant, three times: %v, error %d", v, err)
	}
	v, err = expr.Over(con(null), nil, 2)
	if err != api.OK || v.Kind != api.Int || !slices.Equal(vec.Values(v), []api.Value{null, null}) {
		t.Errorf("null, twice: %v, error %d", v, err)
	}
	v, err = expr.Over(txt("a"), nil, 0)
	if err != api.OK || v.Kind != api.Text || !vec.Good(v) || vec.Len(v) != 0 {
		t.Errorf("no row: %v, error %d", v, err)
	}
}

func TestOverOfTheMostRows(t *testing.T) {
	column := api.Vec{Kind: api.Int, Null: make([]bool, api.MaxRows), N: make([]int64, api.MaxRows)}
	for i := range column.N {
		column.N[i] = int64(i)
	}
	v, err := expr.Over(of(api.Mul, col(0), num(3)), []api.Vec{column}, api.MaxRows)
	if err != api.OK || vec.Len(v) != api.MaxRows || v.N[4095] != 3*4095 || v.N[7] != 21 {
		t.Errorf("error %d, %d values", err, vec.Len(v))
	}
	column.Null, column.N = append(column.Null, false), append(column.N, 1)
	if v, err := expr.Over(col(0), []api.Vec{column}, api.MaxRows+1); err != api.ErrArg || v.Null != nil {
		t.Errorf("one row more: error %d", err)
	}
}

func TestOverRefuses(t *testing.T) {
	numbers := api.Vec{Kind: api.Int, Null: []bool{false, true}, N: []int64{8, 0}}
	texts := api.Vec{Kind: api.Text, Null: []bool{false, false}, S: []string{"a", ""}}
	one := api.Vec{Kind: api.Int, Null: []bool{false}, N: []int64{8}}
	bad := api.Vec{Kind: api.Int, Null: []bool{true, true}, N: []int64{8, 0}}
	sum := of(api.Add, col(0), num(1))
	clash := of(api.Add, txt("a"), num(1))
	for what, c := range map[string]struct {
		e       api.Expr
		columns []api.Vec
		n       int
		want    api.Errno
	}{
		"-1 rows":                            {num(1), nil, -1, api.ErrArg},
		"the fewest rows":                    {num(1), nil, math.MinInt, api.ErrArg},
		"4097 rows":                          {num(1), nil, api.MaxRows + 1, api.ErrArg},
		"the most rows":                      {num(1), nil, math.MaxInt, api.ErrArg},
		"a row more than there is":           {sum, []api.Vec{numbers}, 3, api.ErrArg},
		"a row less than there is":           {sum, []api.Vec{numbers}, 1, api.ErrArg},
		"no row of two":                      {sum, []api.Vec{numbers}, 0, api.ErrArg},
		"a short column that is not used":    {sum, []api.Vec{numbers, one}, 2, api.ErrArg},
		"a bad column":                       {sum, []api.Vec{bad}, 2, api.ErrArg},
		"a bad column that is not used":      {sum, []api.Vec{numbers, bad}, 2, api.ErrArg},
		"a bad column, and no row":           {num(1), []api.Vec{{}}, 0, api.ErrArg},
		"a bad column, and a clash":          {clash, []api.Vec{bad}, 2, api.ErrArg},
		"-1 rows, and a clash":               {clash, nil, -1, api.ErrArg},
		"no such column":                     {col(1), []api.Vec{numbers}, 2, api.ErrArg},
		"no such column, and a clash":        {of(api.And, clash, col(1)), []api.Vec{numbers}, 2, api.ErrArg},
		"not built":                          {of(api.Add, col(0)), []api.Vec{numbers}, 2, api.ErrArg},
		"a text is added":                    {sum, []api.Vec{texts}, 2, api.ErrKind},
		"a clash":                            {clash, []api.Vec{numbers, texts}, 2, api.ErrKind},
		"a clash that is not worked out":     {of(api.If, num(1), num(1), clash), []api.Vec{numbers}, 2, api.ErrKind},
		"a clash without a row":              {clash, nil, 0, api.ErrKind},
		"a number and a text held together":  {of(api.Eq, col(0), col(1)), []api.Vec{numbers, texts}, 2, api.ErrKind},
		"a condition that is a text":         {of(api.If, col(1), col(0), col(0)), []api.Vec{numbers, texts}, 2, api.ErrKind},
		"an If that is a number and a text":  {of(api.If, col(0), col(0), col(1)), []api.Vec{numbers, texts}, 2, api.ErrKind},
		"a text that has a number ahead":     {of(api.Cat, col(0), col(1)), []api.Vec{numbers, texts}, 2, api.ErrKind},
		"the length of what is not a text":   {of(api.Len, col(0)), []api.Vec{numbers}, 2, api.ErrKind},
		"not of a text, in what else is one": {of(api.IsNull, of(api.Not, col(0))), []api.Vec{texts}, 2, api.ErrKind},
	} {
		v, err := expr.Over(c.e, c.columns, c.n)
		if err != c.want || v.Kind != 0 || v.Null != nil || v.N != nil || v.S != nil {
			t.Errorf("%s: %v, error %d, not only error %d", what, v, err, c.want)
		}
	}
}
