package plan_test

import (
	"math/big"
	"slices"

	"tallyhouse/api"
	"tallyhouse/cell"
	"tallyhouse/expr"
)

// What plans mean, spelled out a second time, by the words of the document's
// table, with no regard to how long it takes.

type rows = [][]api.Value

func pick(row []api.Value, cols []int) []api.Value {
	var out []api.Value
	for _, c := range cols {
		out = append(out, row[c])
	}
	return out
}

// keep the rows for which it is so.
func keep(list rows, so func(row []api.Value) bool) rows {
	var out rows
	for _, row := range list {
		if so(row) {
			out = append(out, row)
		}
	}
	return out
}

// times that a row stands in a list.
func times(list rows, row []api.Value) int {
	return len(keep(list, func(other []api.Value) bool { return slices.Equal(row, other) }))
}

// once: each row once.
func once(list rows) rows {
	var out rows
	for _, row := range list {
		if times(out, row) == 0 {
			out = append(out, row)
		}
	}
	return out
}

// valuesOf the column that are not null.
func valuesOf(list rows, column int) []api.Value {
	var out []api.Value
	for _, row := range list {
		if row[column].Kind != api.Null {
			out = append(out, row[column])
		}
	}
	return out
}

func total(values []api.Value) api.Value {
	sum := new(big.Int)
	for _, v := range values {
		sum.Add(sum, big.NewInt(v.N))
	}
	if len(values) == 0 || !sum.IsInt64() {
		return null
	}
	return n(sum.Int64())
}

func spelledAgg(agg api.Agg, list rows) api.Value {
	values := valuesOf(list, agg.Col)
	slices.SortFunc(values, cell.Order)
	switch agg.Fn {
	case api.CountAll:
		return n(int64(len(list)))
	case api.Count:
		return n(int64(len(values)))
	case api.Sum:
		return total(values)
	case api.CountEach:
		return n(int64(len(slices.Compact(values))))
	}
	switch {
	case len(values) == 0:
		return null
	case agg.Fn == api.Least:
		return values[0]
	}
	return values[len(values)-1]
}

// aheadBy keys alone: is a ahead of b?
func aheadBy(keys []api.Key, a, b []api.Value) bool {
	for _, key := range keys {
		order := cell.Order(a[key.Col], b[key.Col])
		if order != 0 {
			return order < 0 != key.Desc
		}
	}
	return false
}

func sorted(keys []api.Key, list rows) rows {
	list = slices.Clone(list)
	slices.SortStableFunc(list, func(a, b []api.Value) int {
		switch {
		case aheadBy(keys, a, b):
			return -1
		case aheadBy(keys, b, a):
			return 1
		}
		return cell.Rows(a, b)
	})
	return list
}

// spelledFn: what a window function says of the row i of a part in order.
func spelledFn(p api.Plan, part rows, i int) api.Value {
	before := keep(part, func(row []api.Value) bool { return aheadBy(p.Keys, row, part[i]) })
	from := 0
	if p.N >= 0 && p.N < i {
		from = i - p.N
	}
	frame := valuesOf(part[from:i+1], p.Col)
	switch p.Fn {
	case api.Number:
		return n(int64(i + 1))
	case api.Rank:
		return n(int64(len(before) + 1))
	case api.Dense:
		var values rows
		for _, row := range before {
			var of []api.Value
			for _, key := range p.Keys {
				of = append(of, row[key.Col])
			}
			values = append(values, of)
		}
		return n(int64(len(once(values)) + 1))
	case api.SumOver:
		return total(frame)
	case api.CountOver:
		return n(int64(len(frame)))
	}
	if p.N > i {
		return null
	}
	return part[i-p.N][p.Col]
}

func spelledJoin(p api.Plan, first, second rows, width int) rows {
	var out rows
	for _, a := range first {
		partners := keep(second, func(b []api.Value) bool { return cell.True(expr.Eval(p.Exprs[0], slices.Concat(a, b))) })
		for _, b := range partners {
			out = append(out, slices.Concat(a, b))
		}
		if p.Op == api.LeftJoin && len(partners) == 0 {
			out = append(out, slices.Concat(a, make([]api.Value, width)))
		}
	}
	return out
}

func spelledGroup(p api.Plan, list rows) rows {
	commons := rows{nil}
	if len(p.Cols) > 0 {
		commons = nil
		for _, row := range list {
			commons = append(commons, pick(row, p.Cols))
		}
		commons = once(commons)
	}
	var out rows
	for _, common := range commons {
		of := keep(list, func(row []api.Value) bool { return slices.Equal(pick(row, p.Cols), common) })
		row := slices.Clone(common)
		for _, agg := range p.Aggs {
			row = append(row, spelledAgg(agg, of))
		}
		out = append(out, row)
	}
	return out
}

func spelledWindow(p api.Plan, list rows) rows {
	var out rows
	var commons rows
	for _, row := range list {
		commons = append(commons, pick(row, p.Cols))
	}
	for _, common := range once(commons) {
		part := sorted(p.Keys, keep(list, func(row []api.Value) bool { return slices.Equal(pick(row, p.Cols), common) }))
		for i, row := range part {
			out = append(out, append(slices.Clone(row), spelledFn(p, part, i)))
		}
	}
	return out
}

func spelledMinus(first, second rows) rows {
	var out rows
	for _, row := range once(first) {
		for range times(first, row) - times(second, row) {
			out = append(out, row)
		}
	}
	return out
}

// meaning of a plan that Check takes, over tables that are good and clean.
func meaning(p api.Plan, tables []api.Table) rows {
	var args []rows
	for _, arg := range p.Args {
		args = append(args, meaning(arg, tables))
	}
	switch p.Op {
	case api.Scan:
		return tables[slices.IndexFunc(tables, func(t api.Table) bool { return t.Name == p.Table })].Rows
	case api.Filter:
		return keep(args[0], func(row []api.Value) bool { return cell.True(expr.Eval(p.Exprs[0], row)) })
	case api.Project:
		var out rows
		for _, row := range args[0] {
			var of []api.Value
			for _, e := range p.Exprs {
				of = append(of, expr.Eval(e, row))
			}
			out = append(out, of)
		}
		return out
	case api.Join, api.LeftJoin:
		return spelledJoin(p, args[0], args[1], len(kindsOf(p.Args[1], tables)))
	case api.Group:
		return spelledGroup(p, args[0])
	case api.Distinct:
		return once(args[0])
	case api.Union:
		return slices.Concat(args...)
	case api.Top:
		list := sorted(p.Keys, args[0])
		list = list[min(p.Off, len(list)):]
		return list[:min(p.N, len(list))]
	case api.Window:
		return spelledWindow(p, args[0])
	case api.Minus:
		return spelledMinus(args[0], args[1])
	}
	return nil
}

// kindsOf a plan that Check takes.
func kindsOf(p api.Plan, tables []api.Table) []int {
	var args [][]int
	for _, arg := range p.Args {
		args = append(args, kindsOf(arg, tables))
	}
	var kinds []int
	switch p.Op {
	case api.Scan:
		for _, c := range tables[slices.IndexFunc(tables, func(t api.Table) bool { return t.Name == p.Table })].Columns {
			kinds = append(kinds, c.Kind)
		}
	case api.Project:
		for _, e := range p.Exprs {
			kind, _ := expr.Kind(e, args[0])
			if kind == api.Null {
				kind = api.Int
			}
			kinds = append(kinds, kind)
		}
	case api.Join, api.LeftJoin:
		kinds = slices.Concat(args...)
	case api.Group:
		for _, c := range p.Cols {
			kinds = append(kinds, args[0][c])
		}
		for _, agg := range p.Aggs {
			kind := api.Int
			if agg.Fn == api.Least || agg.Fn == api.Most {
				kind = args[0][agg.Col]
			}
			kinds = append(kinds, kind)
		}
	case api.Window:
		kind := api.Int
		if p.Fn == api.Ahead {
			kind = args[0][p.Col]
		}
		kinds = append(slices.Clone(args[0]), kind)
	case api.Empty:
		kinds = p.Cols
	default:
		kinds = args[0]
	}
	return kinds
}

// spelled: what Answer answers.
func spelled(p api.Plan, tables []api.Table) rows { return sorted(nil, meaning(p, tables)) }
