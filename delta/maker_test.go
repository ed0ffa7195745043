package delta_test

import (
	"math"
	"math/rand"
	"slices"

	"tallyhouse/api"
	"tallyhouse/expr"
	"tallyhouse/plan"
)

// mostRows of a table that is made.
const mostRows = 12

// maker of plans that Check takes, and of tables for them.
type maker struct {
	*rand.Rand
	tables []api.Table
}

func col(i int) api.Expr { return api.Expr{Op: api.Col, N: i} }

func con(v api.Value) api.Expr { return api.Expr{Op: api.Const, V: v} }

func of(op int, parts ...api.Expr) api.Expr { return api.Expr{Op: op, Args: parts} }

// over: a plan with its Args.
func over(p api.Plan, args ...api.Plan) api.Plan {
	p.Args = args
	return p
}

func (m maker) value(kind int) api.Value {
	switch {
	case m.Intn(5) == 0:
		return null
	case kind == api.Text:
		return text([]string{"", "a", "b", "\x00", "ab"}[m.Intn(5)])
	}
	return num([]int64{0, 1, 2, 3, -1, math.MaxInt64, math.MinInt64}[m.Intn(7)])
}

// row of a table.
func (m maker) row(t api.Table) []api.Value {
	var row []api.Value
	for _, c := range t.Columns {
		row = append(row, m.value(c.Kind))
	}
	return row
}

func (m maker) table(name, kinds string) api.Table {
	t := table(name, kinds)
	for range m.Intn(mostRows) {
		t.Rows = append(t.Rows, m.row(t))
	}
	return t
}

// kinds of a plan.
func (m maker) kinds(p api.Plan) []int {
	kinds, _ := plan.Check(p, m.tables)
	return kinds
}

// expr of a kind over columns of these kinds.
func (m maker) expr(kind int, kinds []int, height int) api.Expr {
	if height == 1 || m.Intn(4) == 0 {
		if i := m.Intn(len(kinds)); kinds[i] == kind && m.Intn(4) > 0 {
			return col(i)
		}
		return con(m.value(kind))
	}
	part := func(kind int) api.Expr { return m.expr(kind, kinds, height-1) }
	any := 1 + m.Intn(2)
	if kind == api.Text {
		if m.Intn(3) == 0 {
			return of(api.If, part(api.Int), part(kind), part(kind))
		}
		return of(api.Cat, part(kind), part(kind))
	}
	switch m.Intn(8) {
	case 0:
		return of(api.Neg+m.Intn(2), part(kind))
	case 1:
		return of(api.IsNull, part(any))
	case 2:
		return of(api.Len, part(api.Text))
	case 3:
		return of(api.Add+m.Intn(5), part(kind), part(kind))
	case 4:
		return of(api.And+m.Intn(2), part(kind), part(kind))
	case 5:
		return of(api.If, part(kind), part(kind), part(kind))
	}
	return of(api.Eq+m.Intn(6), part(any), part(any))
}

// condition of a Filter.
func (m maker) condition(kinds []int) api.Expr {
	i := m.Intn(len(kinds))
	switch m.Intn(4) {
	case 0:
		return m.expr(api.Int, kinds, 3)
	case 1:
		e := of(api.IsNull, col(i))
		if m.Intn(2) == 0 {
			e = of(api.Not, e)
		}
		return of(api.And, e, m.expr(api.Int, kinds, 2))
	}
	left, right := col(i), con(m.value(kinds[i]))
	if m.Intn(2) == 0 {
		left, right = right, left
	}
	return of(api.Eq+m.Intn(6), left, right)
}

// matching: the condition of a join; often that columns of both are equal.
func (m maker) matching(first, second []int) api.Expr {
	kinds := slices.Concat(first, second)
	e := m.expr(api.Int, kinds, 3)
	a, b := m.Intn(len(first)), len(first)+m.Intn(len(second))
	if kinds[a] != kinds[b] || m.Intn(4) == 0 {
		return e
	}
	equal := of(api.Eq, col(b), col(a))
	if m.Intn(2) == 0 {
		return equal
	}
	return of(api.And, e, equal)
}

// some of the columns, each once.
func (m maker) some(width int) []int { return m.Perm(width)[:m.Intn(min(width, 3)+1)] }

func (m maker) keys(width int) []api.Key {
	var keys []api.Key
	for _, c := range m.some(width) {
		keys = append(keys, api.Key{Col: c, Desc: m.Intn(2) == 0})
	}
	return keys
}

func (m maker) group(arg api.Plan, kinds []int) api.Plan {
	p := over(api.Plan{Op: api.Group, Cols: m.some(len(kinds)), Aggs: []api.Agg{{Fn: api.CountAll}}}, arg)
	for range m.Intn(4) {
		agg := api.Agg{Fn: api.Count + m.Intn(5), Col: m.Intn(len(kinds))}
		if agg.Fn != api.Sum || kinds[agg.Col] == api.Int {
			p.Aggs = append(p.Aggs, agg)
		}
	}
	return p
}

func (m maker) window(arg api.Plan, kinds []int) api.Plan {
	p := over(api.Plan{Op: api.Window, Fn: api.Number + m.Intn(6), Cols: m.some(len(kinds)), Keys: m.keys(len(kinds))}, arg)
	if p.Fn <= api.Dense {
		return p
	}
	p.Col, p.N = m.Intn(len(kinds)), m.Intn(4)
	if p.Fn == api.SumOver && kinds[p.Col] == api.Text {
		p.Fn = api.CountOver
	}
	if p.Fn != api.Ahead && m.Intn(3) == 0 {
		p.N = -1
	}
	return p
}

// as: the plan, turned into one of these kinds.
func (m maker) as(p api.Plan, kinds []int) api.Plan {
	from := m.kinds(p)
	if slices.Equal(from, kinds) {
		return p
	}
	var exprs []api.Expr
	for _, kind := range kinds {
		e := m.expr(kind, from, 2)
		if is, _ := expr.Kind(e, from); is == api.Null && kind == api.Text {
			e = con(text("a"))
		}
		exprs = append(exprs, e)
	}
	return over(api.Plan{Op: api.Project, Exprs: exprs}, p)
}

func (m maker) plan(height int) api.Plan {
	if height == 1 {
		if m.Intn(15) == 0 {
			return api.Plan{Op: api.Empty, Cols: []int{api.Int + m.Intn(2), api.Int}}
		}
		return api.Plan{Op: api.Scan, Table: m.tables[m.Intn(len(m.tables))].Name}
	}
	arg := m.plan(height - 1 - m.Intn(min(2, height-1)))
	kinds := m.kinds(arg)
	other := func() api.Plan { return m.plan(1 + m.Intn(height-1)) }
	switch op := api.Filter + m.Intn(12); op {
	case api.Project:
		p := over(api.Plan{Op: op}, arg)
		for range 1 + m.Intn(3) {
			p.Exprs = append(p.Exprs, m.expr(api.Int+m.Intn(2), kinds, 3))
		}
		return p
	case api.Join, api.LeftJoin:
		second := other()
		if len(kinds)+len(m.kinds(second)) > api.MaxColumns {
			return arg
		}
		return over(api.Plan{Op: op, Exprs: []api.Expr{m.matching(kinds, m.kinds(second))}}, arg, second)
	case api.Group:
		return m.group(arg, kinds)
	case api.Distinct:
		return over(api.Plan{Op: op}, arg)
	case api.Union:
		p := over(api.Plan{Op: op}, arg)
		for range m.Intn(3) {
			p.Args = append(p.Args, m.as(other(), kinds))
		}
		return p
	case api.Top:
		return over(api.Plan{Op: op, Keys: m.keys(len(kinds)), N: m.Intn(6), Off: m.Intn(3)}, arg)
	case api.Window:
		return m.window(arg, kinds)
	case api.Minus:
		return over(api.Plan{Op: op}, arg, m.as(other(), kinds))
	}
	return over(api.Plan{Op: api.Filter, Exprs: []api.Expr{m.condition(kinds)}}, arg)
}

// span of a plan, as DOC.md has it, if all tables have as many rows as they ever
// may.
func span(p api.Plan) int {
	rows := 1
	switch p.Op {
	case api.Scan:
		rows = mostRows
	case api.Join, api.LeftJoin:
		rows = span(p.Args[0]) * span(p.Args[1])
	case api.Union:
		for _, arg := range p.Args {
			rows += span(arg)
		}
	}
	for _, arg := range p.Args {
		rows = max(rows, span(arg))
	}
	return rows
}

// dirty: the same values, with something in them that does not count.
func (m maker) dirty(row []api.Value) []api.Value {
	row = slices.Clone(row)
	for i, v := range row {
		switch {
		case m.Intn(4) > 0:
		case v.Kind == api.Int:
			row[i].S = "x"
		case v.Kind == api.Text:
			row[i].N = 7
		default:
			row[i] = api.Value{Kind: 9 * m.Intn(2), N: 3, S: "y"}
		}
	}
	return row
}

// deltas that the tables take, and the tables behind them.
func (m maker) deltas() ([]api.Delta, []api.Table) {
	var l []api.Delta
	behind := slices.Clone(m.tables)
	for range m.Intn(4) {
		i := m.Intn(len(behind))
		behind[i].Rows = slices.Clone(behind[i].Rows)
		d := api.Delta{Table: behind[i].Name}
		for range m.Intn(5) {
			d.Changes = append(d.Changes, m.change(&behind[i]))
		}
		l = append(l, d)
	}
	for _, d := range l {
		m.Shuffle(len(d.Changes), func(a, b int) { d.Changes[a], d.Changes[b] = d.Changes[b], d.Changes[a] })
	}
	return l, behind
}

// change of a table, which is carried out.
func (m maker) change(t *api.Table) api.Change {
	if count := len(t.Rows); m.Intn(2) == 0 && count > 0 || count > mostRows-2 {
		k := m.Intn(count)
		row := t.Rows[k]
		t.Rows = slices.Delete(t.Rows, k, k+1)
		return api.Change{Row: m.dirty(row), Weight: -1}
	}
	row := m.row(*t)
	if len(t.Rows) > 0 && m.Intn(3) == 0 {
		row = t.Rows[m.Intn(len(t.Rows))]
	}
	times := m.Intn(3)
	for range times {
		t.Rows = append(t.Rows, row)
	}
	return api.Change{Row: m.dirty(row), Weight: int64(times)}
}
