package plan_test

import (
	"math"
	"math/rand"
	"slices"
	"testing"

	"tallyhouse/api"
	"tallyhouse/expr"
	"tallyhouse/plan"
)

// maker of plans that Check takes, and of tables for them.
type maker struct {
	*rand.Rand
	tables []api.Table
}

func (m maker) value(kind int) api.Value {
	switch {
	case m.Intn(5) == 0:
		return null
	case kind == api.Text:
		return s([]string{"", "a", "b", "\x00", "ab"}[m.Intn(5)])
	}
	return n([]int64{0, 1, 2, 3, -1, math.MaxInt64, math.MinInt64}[m.Intn(7)])
}

func (m maker) table(name, kinds string) api.Table {
	t := table(name, kinds)
	for range m.Intn(8) {
		var row []api.Value
		for _, c := range t.Columns {
			row = append(row, m.value(c.Kind))
		}
		t.Rows = append(t.Rows, row)
	}
	return t
}

// expr of a kind over columns of these kinds.
func (m maker) expr(kind int, kinds []int, height int) api.Expr {
	if height == 1 || m.Intn(4) == 0 {
		i := m.Intn(len(kinds))
		if kinds[i] == kind && m.Intn(4) > 0 {
			return col(i)
		}
		return con(m.value(kind))
	}
	part := func(kind int) api.Expr { return m.expr(kind, kinds, height-1) }
	any := 1 + m.Intn(2)
	if kind == api.Text {
		if m.Intn(3) == 0 {
			return of(api.If, part(api.Int), part(kind), part(kind))
		}
		return of(api.Cat, part(kind), part(kind))
	}
	switch m.Intn(8) {
	case 0:
		return of(api.Neg+m.Intn(2), part(kind))
	case 1:
		return of(api.IsNull, part(any))
	case 2:
		return of(api.Len, part(api.Text))
	case 3:
		return of(api.Add+m.Intn(5), part(kind), part(kind))
	case 4:
		return of(api.And+m.Intn(2), part(kind), part(kind))
	case 5:
		return of(api.If, part(kind), part(kind), part(kind))
	}
	return of(api.Eq+m.Intn(6), part(any), part(any))
}

// condition of a join: often that columns of both are equal.
func (m maker) condition(first, second []int) api.Expr {
	kinds := slices.Concat(first, second)
	e := m.expr(api.Int, kinds, 3)
	for range m.Intn(3) {
		a, b := m.Intn(len(first)), len(first)+m.Intn(len(second))
		if kinds[a] != kinds[b] {
			continue
		}
		if m.Intn(2) == 0 {
			a, b = b, a
		}
		equal := of(api.Eq, col(a), col(b))
		switch m.Intn(3) {
		case 0:
			e = equal
		case 1:
			e = of(api.And, equal, e)
		default:
			e = of(api.And, e, equal)
		}
	}
	return e
}

// some of the columns, each once.
func (m maker) some(width int) []int { return m.Perm(width)[:m.Intn(min(width, 3)+1)] }

func (m maker) keys(width int) []api.Key {
	var keys []api.Key
	for _, c := range m.some(width) {
		keys = append(keys, api.Key{Col: c, Desc: m.Intn(2) == 0})
	}
	return keys
}

// ofKind: a column of this kind; of any, if it is Null; false, if there is none.
func (m maker) ofKind(kind int, kinds []int) (int, bool) {
	for _, c := range m.Perm(len(kinds)) {
		if kind == api.Null || kinds[c] == kind {
			return c, true
		}
	}
	return 0, false
}

func (m maker) group(arg api.Plan, kinds []int) api.Plan {
	p := group(arg, m.some(len(kinds)))
	for range m.Intn(4) {
		fn := api.CountAll + m.Intn(6)
		kind := api.Null
		if fn == api.Sum {
			kind = api.Int
		}
		c, there := m.ofKind(kind, kinds)
		if fn == api.CountAll {
			c = 0
		}
		if there {
			p.Aggs = append(p.Aggs, api.Agg{Fn: fn, Col: c})
		}
	}
	if len(p.Cols)+len(p.Aggs) == 0 {
		p.Aggs = []api.Agg{{Fn: api.CountAll}}
	}
	return p
}

func (m maker) window(arg api.Plan, kinds []int) api.Plan {
	fn := api.Number + m.Intn(6)
	p := window(fn, 0, 0, arg, m.some(len(kinds)), m.keys(len(kinds))...)
	if fn <= api.Dense {
		return p
	}
	kind := api.Null
	if fn == api.SumOver {
		kind = api.Int
	}
	c, there := m.ofKind(kind, kinds)
	if !there {
		p.Fn = api.Number
		return p
	}
	p.Col, p.N = c, m.Intn(4)
	if fn != api.Ahead && m.Intn(3) == 0 {
		p.N = -1 - m.Intn(2)
	}
	return p
}

// as: the plan, turned into one of these kinds.
func (m maker) as(p api.Plan, kinds []int) api.Plan {
	from := kindsOf(p, m.tables)
	if slices.Equal(from, kinds) {
		return p
	}
	var exprs []api.Expr
	for _, kind := range kinds {
		e := m.expr(kind, from, 2)
		if is, _ := expr.Kind(e, from); is == api.Null && kind == api.Text {
			e = txt("a")
		}
		exprs = append(exprs, e)
	}
	return project(p, exprs...)
}

func (m maker) plan(height int) api.Plan {
	if height == 1 {
		if m.Intn(12) == 0 {
			return empty(api.Int+m.Intn(2), api.Int)
		}
		return scan(m.tables[m.Intn(len(m.tables))].Name)
	}
	arg := m.plan(height - 1 - m.Intn(min(2, height-1)))
	kinds := kindsOf(arg, m.tables)
	other := func() api.Plan { return m.plan(1 + m.Intn(height-1)) }
	switch op := api.Filter + m.Intn(11); op {
	case api.Filter:
		return filter(m.expr(api.Int, kinds, 3), arg)
	case api.Project:
		p := project(arg)
		for range 1 + m.Intn(3) {
			p.Exprs = append(p.Exprs, m.expr(api.Int+m.Intn(2), kinds, 3))
		}
		return p
	case api.Join, api.LeftJoin:
		second := other()
		return join(op, m.condition(kinds, kindsOf(second, m.tables)), arg, second)
	case api.Group:
		return m.group(arg, kinds)
	case api.Distinct:
		return distinct(arg)
	case api.Union:
		p := union(arg)
		for range m.Intn(3) {
			p.Args = append(p.Args, m.as(other(), kinds))
		}
		return p
	case api.Top:
		return top(arg, m.Intn(6), m.Intn(3), m.keys(len(kinds))...)
	case api.Window:
		return m.window(arg, kinds)
	case api.Minus:
		return minus(arg, m.as(other(), kinds))
	}
	return arg
}

// span of a plan, as DOC.md has it.
func span(p api.Plan, tables []api.Table) int {
	rows := 0
	switch p.Op {
	case api.Scan:
		rows = len(tables[slices.IndexFunc(tables, func(t api.Table) bool { return t.Name == p.Table })].Rows)
	case api.Join, api.LeftJoin:
		rows = span(p.Args[0], tables) * span(p.Args[1], tables)
	case api.Union:
		for _, arg := range p.Args {
			rows += span(arg, tables)
		}
	}
	for _, arg := range p.Args {
		rows = max(rows, span(arg, tables))
	}
	return max(rows, 1)
}

// each of many plans over many tables.
func each(seed int64, count int, see func(m maker, p api.Plan)) {
	m := maker{Rand: rand.New(rand.NewSource(seed))}
	for range count {
		m.tables = []api.Table{m.table("t", "it"), m.table("u", "iti"), m.table("v", "t")}
		for range 5 {
			p := m.plan(1 + m.Intn(6))
			if span(p, m.tables) <= 600 && len(kindsOf(p, m.tables)) <= api.MaxColumns {
				see(m, p)
			}
		}
	}
}

func TestManyPlansMeanWhatTheDocumentSays(t *testing.T) {
	seen := map[int]int{}
	rowsSeen := 0
	each(1, 8000, func(m maker, p api.Plan) {
		got, e := plan.Answer(p, m.tables)
		if e == api.ErrArg {
			if _, e := plan.Check(p, m.tables); e != api.ErrArg {
				t.Fatalf("Answer refuses what Check takes: %v", p)
			}
			return
		}
		text, _ := plan.Print(p)
		if want := spelled(p, m.tables); e != api.OK || !sameRows(got, want) {
			t.Fatalf("%s over %v answers %s, error %d, not %s", text, m.tables, show(got), e, show(want))
		}
		if kinds, e := plan.Check(p, m.tables); e != api.OK || !slices.Equal(kinds, kindsOf(p, m.tables)) {
			t.Fatalf("%s is of the kinds %v, error %d", text, kinds, e)
		}
		seen[p.Op]++
		rowsSeen += len(got)
	})
	for op := api.Scan; op <= api.Empty; op++ {
		if seen[op] < 100 {
			t.Errorf("operator %d was seen %d times", op, seen[op])
		}
	}
	if rowsSeen < 100000 {
		t.Errorf("only %d rows", rowsSeen)
	}
}

func TestTheOrderOfRowsMakesNoDifference(t *testing.T) {
	each(2, 1000, func(m maker, p api.Plan) {
		before, first := plan.Answer(p, m.tables)
		for i := range m.tables {
			rows := m.tables[i].Rows
			m.Shuffle(len(rows), func(a, b int) { rows[a], rows[b] = rows[b], rows[a] })
		}
		m.Shuffle(len(m.tables), func(a, b int) { m.tables[a], m.tables[b] = m.tables[b], m.tables[a] })
		if after, second := plan.Answer(p, m.tables); first != second || !sameRows(before, after) {
			t.Fatalf("%v over %v answers otherwise", p, m.tables)
		}
	})
}

func TestEveryRowFitsTheKinds(t *testing.T) {
	each(3, 1000, func(m maker, p api.Plan) {
		kinds, e := plan.Check(p, m.tables)
		got, _ := plan.Answer(p, m.tables)
		if e != api.OK {
			return
		}
		answer := table("answer", "")
		for _, kind := range kinds {
			answer.Columns = append(answer.Columns, api.Column{Name: "c" + string(rune('a'+len(answer.Columns)%26)) + string(rune('a'+len(answer.Columns)/26)), Kind: kind})
		}
		answer.Rows = got
		if plan.Good([]api.Table{answer}) != api.OK {
			t.Fatalf("%v answers %s, of the kinds %v", p, show(got), kinds)
		}
	})
}
