package expr

import (
	"tallyhouse/api"
	"tallyhouse/cell"
	"tallyhouse/vec"
)

// work out a value over a row.
type work func(row []api.Value) api.Value

// Ready: what answers as Eval does, for whoever has many rows: e is looked at
// once, and not kept.
func Ready(e api.Expr) func(row []api.Value) api.Value {
	if !isBuilt(e) {
		return func([]api.Value) api.Value { return api.Value{} }
	}
	return ready(e)
}

// ready: what works out an expression that is built: a function of those that
// work out its parts, so that its operators are looked at once for all rows.
func ready(e api.Expr) work {
	switch len(e.Args) {
	case 0:
		return leaf(e)
	case 1:
		of, part := single(e.Op), ready(e.Args[0])
		return func(row []api.Value) api.Value { return of(part(row)) }
	case 2:
		of, left, right := double(e.Op), ready(e.Args[0]), ready(e.Args[1])
		return func(row []api.Value) api.Value { return of(left(row), right(row)) }
	}
	test, then, other := ready(e.Args[0]), ready(e.Args[1]), ready(e.Args[2])
	return func(row []api.Value) api.Value {
		if cell.True(test(row)) {
			return then(row)
		}
		return other(row)
	}
}

func leaf(e api.Expr) work {
	if e.Op == api.Const {
		v := cell.Clean(e.V)
		return func([]api.Value) api.Value { return v }
	}
	n := e.N
	return func(row []api.Value) api.Value {
		if n >= len(row) {
			return api.Value{}
		}
		return cell.Clean(row[n])
	}
}

// single: what an operator of one part makes of it.
func single(op int) func(v api.Value) api.Value {
	switch op {
	case api.Neg:
		return func(v api.Value) api.Value { return cell.Reckon(api.Sub, number(0), v) }
	case api.Not:
		return cell.Not
	case api.IsNull:
		return isNull
	}
	return length
}

// double: what an operator of two parts makes of them.
func double(op int) func(v, w api.Value) api.Value {
	switch {
	case op <= api.Mod:
		return func(v, w api.Value) api.Value { return cell.Reckon(op, v, w) }
	case op <= api.Ge:
		return func(v, w api.Value) api.Value { return cell.Test(op, v, w) }
	case op == api.Cat:
		return cell.Cat
	}
	return func(v, w api.Value) api.Value { return cell.Both(op, v, w) }
}

func number(n int64) api.Value { return api.Value{Kind: api.Int, N: n} }

func isNull(v api.Value) api.Value {
	if v.Kind == api.Null {
		return number(1)
	}
	return number(0)
}

func length(v api.Value) api.Value {
	if v.Kind != api.Text {
		return api.Value{}
	}
	return number(int64(len(v.S)))
}

// valuesOver n rows, whose columns are good.
func valuesOver(e api.Expr, columns []api.Vec, n int) []api.Value {
	used := Columns(e)
	lists := make([][]api.Value, len(used))
	for i, column := range used {
		lists[i] = vec.Values(columns[column])
	}
	answer, row := ready(e), make([]api.Value, len(columns))
	values := make([]api.Value, n)
	for i := range values {
		for k, column := range used {
			row[column] = lists[k][i]
		}
		values[i] = answer(row)
	}
	return values
}
