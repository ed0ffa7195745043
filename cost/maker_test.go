package cost_test

import (
	"math"
	"math/rand"
	"slices"

	"tallyhouse/api"
	"tallyhouse/expr"
	"tallyhouse/plan"
)

// maker of plans that Check takes, and of tables for them.
type maker struct {
	*rand.Rand
	tables []api.Table
}

func (m maker) value(kind int) api.Value {
	switch {
	case m.Intn(5) == 0:
		return null
	case kind == api.Text:
		return s([]string{"", "a", "b", "\x00", "ab"}[m.Intn(5)])
	}
	return n([]int64{0, 1, 2, 3, -1, math.MaxInt64, math.MinInt64}[m.Intn(7)])
}

// expr of a kind over columns of these kinds.
func (m maker) expr(kind int, kinds []int, height int) api.Expr {
	if height == 1 || m.Intn(4) == 0 {
		i := m.Intn(len(kinds))
		if kinds[i] == kind && m.Intn(4) > 0 {
			return col(i)
		}
		return con(m.value(kind))
	}
	part := func(kind int) api.Expr { return m.expr(kind, kinds, height-1) }
	any := 1 + m.Intn(2)
	if kind == api.Text {
		if m.Intn(3) == 0 {
			return of(api.If, part(api.Int), part(kind), part(kind))
		}
		return of(api.Cat, part(kind), part(kind))
	}
	switch m.Intn(8) {
	case 0:
		return of(api.Neg+m.Intn(2), part(kind))
	case 1:
		return of(api.IsNull, part(any))
	case 2:
		return of(api.Len, part(api.Text))
	case 3:
		return of(api.Add+m.Intn(5), part(kind), part(kind))
	case 4:
		return of(api.And+m.Intn(2), part(kind), part(kind))
	case 5:
		return of(api.If, part(kind), part(kind), part(kind))
	}
	return of(api.Eq+m.Intn(6), part(any), part(any))
}

// condition of a join: often that columns of both are equal.
func (m maker) condition(first, second []int) api.Expr {
	kinds := slices.Concat(first, second)
	e := m.expr(api.Int, kinds, 3)
	for range m.Intn(3) {
		a, b := m.Intn(len(first)), len(first)+m.Intn(len(second))
		if kinds[a] != kinds[b] {
			continue
		}
		if m.Intn(2) == 0 {
			a, b = b, a
		}
		equal := of(api.Eq, col(a), col(b))
		switch m.Intn(3) {
		case 0:
			e = equal
		case 1:
			e = of(api.And, equal, e)
		default:
			e = of(api.And, e, equal)
		}
	}
	return e
}

// some of the columns, each once.
func (m maker) some(width int) []int { return m.Perm(width)[:m.Intn(min(width, 3)+1)] }

func (m maker) keys(width int) []api.Key {
	var keys []api.Key
	for _, c := range m.some(width) {
		keys = append(keys, api.Key{Col: c, Desc: m.Intn(2) == 0})
	}
	return keys
}

// ofKind: a column of this kind; of any, if it is Null; false, if there is none.
func (m maker) ofKind(kind int, kinds []int) (int, bool) {
	for _, c := range m.Perm(len(kinds)) {
		if kind == api.Null || kinds[c] == kind {
			return c, true
		}
	}
	return 0, false
}

func (m maker) group(arg api.Plan, kinds []int) api.Plan {
	p := group(arg, m.some(len(kinds)))
	for range m.Intn(4) {
		fn := api.CountAll + m.Intn(6)
		kind := api.Null
		if fn == api.Sum {
			kind = api.Int
		}
		c, there := m.ofKind(kind, kinds)
		if fn == api.CountAll {
			c = 0
		}
		if there {
			p.Aggs = append(p.Aggs, api.Agg{Fn: fn, Col: c})
		}
	}
	if len(p.Cols)+len(p.Aggs) == 0 {
		p.Aggs = []api.Agg{{Fn: api.CountAll}}
	}
	return p
}

func (m maker) window(arg api.Plan, kinds []int) api.Plan {
	fn := api.Number + m.Intn(6)
	p := window(fn, 0, 0, arg, m.some(len(kinds)), m.keys(len(kinds))...)
	if fn <= api.Dense {
		return p
	}
	kind := api.Null
	if fn == api.SumOver {
		kind = api.Int
	}
	c, there := m.ofKind(kind, kinds)
	if !there {
		p.Fn = api.Number
		return p
	}
	p.Col, p.N = c, m.Intn(4)
	if fn != api.Ahead && m.Intn(3) == 0 {
		p.N = -1 - m.Intn(2)
	}
	return p
}

// as: the plan, turned into one of these kinds.
func (m maker) as(p api.Plan, kinds []int) api.Plan {
	from := m.kinds(p)
	if slices.Equal(from, kinds) {
		return p
	}
	var exprs []api.Expr
	for _, kind := range kinds {
		e := m.expr(kind, from, 2)
		if is, _ := expr.Kind(e, from); is == api.Null && kind == api.Text {
			e = con(s("a"))
		}
		exprs = append(exprs, e)
	}
	return project(p, exprs...)
}

func (m maker) plan(height int) api.Plan {
	if height == 1 {
		if m.Intn(12) == 0 {
			return empty(api.Int+m.Intn(2), api.Int)
		}
		return scan(m.tables[m.Intn(len(m.tables))].Name)
	}
	arg := m.plan(height - 1 - m.Intn(min(2, height-1)))
	kinds := m.kinds(arg)
	other := func() api.Plan { return m.plan(1 + m.Intn(height-1)) }
	switch op := api.Filter + m.Intn(11); op {
	case api.Filter:
		return filter(m.expr(api.Int, kinds, 3), arg)
	case api.Project:
		p := project(arg)
		for range 1 + m.Intn(3) {
			p.Exprs = append(p.Exprs, m.expr(api.Int+m.Intn(2), kinds, 3))
		}
		return p
	case api.Join, api.LeftJoin:
		second := other()
		return join(op, m.condition(kinds, m.kinds(second)), arg, second)
	case api.Group:
		return m.group(arg, kinds)
	case api.Distinct:
		return distinct(arg)
	case api.Union:
		p := union(arg)
		for range m.Intn(3) {
			p.Args = append(p.Args, m.as(other(), kinds))
		}
		return p
	case api.Top:
		return top(arg, m.Intn(6), m.Intn(3), m.keys(len(kinds))...)
	case api.Window:
		return m.window(arg, kinds)
	case api.Minus:
		return minus(arg, m.as(other(), kinds))
	}
	return arg
}

// span of a plan, as DOC.md has it.
func span(p api.Plan, tables []api.Table) int {
	rows := 0
	switch p.Op {
	case api.Scan:
		rows = len(tables[slices.IndexFunc(tables, func(t api.Table) bool { return t.Name == p.Table })].Rows)
	case api.Join, api.LeftJoin:
		rows = span(p.Args[0], tables) * span(p.Args[1], tables)
	case api.Union:
		for _, arg := range p.Args {
			rows += span(arg, tables)
		}
	}
	for _, arg := range p.Args {
		rows = max(rows, span(arg, tables))
	}
	return max(rows, 1)
}

// kinds of a plan; none, if Check refuses it.
func (m maker) kinds(p api.Plan) []int {
	kinds, _ := plan.Check(p, m.tables)
	return kinds
}

// small: a plan that Check takes, of few columns.
func (m maker) small(height int) api.Plan {
	for {
		p := m.plan(1 + m.Intn(height))
		if kinds := m.kinds(p); len(kinds) >= 1 && len(kinds) <= 6 && span(p, m.tables) <= 500 {
			return p
		}
	}
}

// leaf: a small plan that is no Join.
func (m maker) leaf() api.Plan {
	if m.Intn(2) == 0 {
		return scan(m.tables[m.Intn(len(m.tables))].Name)
	}
	for {
		if p := m.small(2); p.Op != api.Join && len(m.kinds(p)) <= 4 && span(p, m.tables) <= 6 {
			return p
		}
	}
}

// spread of so many plans, with conditions of few or many parts.
func (m maker) spread(leaves int) api.Plan {
	if leaves == 1 {
		return m.leaf()
	}
	first := 1 + m.Intn(leaves-1)
	a, b := m.spread(first), m.spread(leaves-first)
	return join(api.Join, m.conditions(m.kinds(a), m.kinds(b)), a, b)
}

// conditions of a join: parts of one side, of both, or without columns.
func (m maker) conditions(first, second []int) api.Expr {
	kinds := slices.Concat(first, second)
	e := num(1)
	for i := range m.Intn(4) {
		var part api.Expr
		switch m.Intn(5) {
		case 0:
			part = m.expr(api.Int, kinds, 2)
		case 1:
			part = m.expr(api.Int, first, 2)
		case 2:
			part = m.expr(api.Int, second, 2)
			part, _ = expr.Moved(part, rising(len(kinds))[len(first):])
		default:
			part = m.condition(first, second)
		}
		if i == 0 {
			e = part
		} else {
			e = of(api.And, e, part)
		}
	}
	return e
}

// number: a small one, a great one, one above all that is reckoned with, one
// below 0.
func (m maker) number() int {
	return []int{0, 1, 2, 3, 7, 10, 50, 100, 999, 5000, 1 << 20, 1<<40 + 3, 1 << 60, math.MaxInt, -1, math.MinInt}[m.Intn(16)]
}

// stats of most of the tables; some do not speak of them.
func (m maker) stats() []api.Stat {
	var stats []api.Stat
	for _, table := range m.tables {
		if m.Intn(6) == 0 {
			continue
		}
		stat := api.Stat{Table: table.Name, Rows: m.number()}
		for range len(table.Columns) + m.Intn(9)/8 {
			stat.Each = append(stat.Each, m.number())
		}
		stats = append(stats, stat)
	}
	m.Shuffle(len(stats), func(i, k int) { stats[i], stats[k] = stats[k], stats[i] })
	if len(stats) > 0 && m.Intn(4) == 0 {
		again := stats[0]
		again.Rows = m.number()
		stats = append(stats, again)
	}
	return stats
}

// made: a maker with tables of a few rows.
func made(seed int64, rows int) maker {
	m := maker{Rand: rand.New(rand.NewSource(seed))}
	m.tables = []api.Table{table("t", "ii"), table("u", "i"), table("v", "it"), table("x", "t")}
	for i, t := range m.tables {
		for range m.Intn(rows + 1) {
			var row []api.Value
			for _, c := range t.Columns {
				row = append(row, m.value(c.Kind))
			}
			m.tables[i].Rows = append(m.tables[i].Rows, row)
		}
	}
	return m
}
