package cost_test

import (
	"math/big"
	"testing"

	"tallyhouse/api"
	"tallyhouse/cell"
	"tallyhouse/expr"
	"tallyhouse/plan"
)

// model: the words of the document, one by one, in numbers without a bound that
// are cut where the document cuts them, each reckoned anew wherever it is asked
// for.
type model struct {
	tables []api.Table
	stats  []api.Stat
}

func cut(x *big.Int) int {
	if x.Cmp(big.NewInt(top60)) > 0 {
		return top60
	}
	return int(x.Int64())
}

func sum(list ...int) int {
	total := new(big.Int)
	for _, x := range list {
		total.Add(total, big.NewInt(int64(x)))
	}
	return cut(total)
}

func product(a, b int) int { return cut(new(big.Int).Mul(big.NewInt(int64(a)), big.NewInt(int64(b)))) }

func ratio(a, b int) int {
	q, rest := new(big.Int).QuoRem(big.NewInt(int64(a)), big.NewInt(int64(b)), new(big.Int))
	if rest.Sign() > 0 {
		q.Add(q, big.NewInt(1))
	}
	return cut(q)
}

func clipped(x int) int { return max(0, min(x, top60)) }

// table's numbers: rows, and of a column the unlike values.
func (m model) table(name string, column int) (int, int) {
	for _, table := range m.tables {
		if table.Name != name {
			continue
		}
		for _, stat := range m.stats {
			if stat.Table != name {
				continue
			}
			if len(stat.Each) != len(table.Columns) {
				break
			}
			return clipped(stat.Rows), clipped(stat.Each[column])
		}
	}
	return 1000, 100
}

func (m model) width(p api.Plan) int {
	kinds, _ := plan.Check(p, m.tables)
	return len(kinds)
}

func (m model) unlike(p api.Plan, i int) int {
	rows := m.rows(p)
	return max(1, min(rows, m.unlikeUnbound(p, i, rows)))
}

func (m model) unlikeUnbound(p api.Plan, i, rows int) int {
	switch p.Op {
	case api.Scan:
		_, each := m.table(p.Table, i)
		return max(1, each)
	case api.Project:
		if e := p.Exprs[i]; e.Op == api.Col {
			return m.unlike(p.Args[0], e.N)
		}
	case api.Join, api.LeftJoin:
		return m.unlikeOfBoth(p, i)
	case api.Filter, api.Distinct, api.Top, api.Minus:
		return m.unlike(p.Args[0], i)
	case api.Window:
		if i < m.width(p)-1 {
			return m.unlike(p.Args[0], i)
		}
	case api.Group:
		if i < len(p.Cols) {
			return m.unlike(p.Args[0], p.Cols[i])
		}
	}
	return rows
}

// unlikeOfBoth: the columns of both Args, one behind the other.
func (m model) unlikeOfBoth(p api.Plan, i int) int {
	if width := m.width(p.Args[0]); i >= width {
		return m.unlike(p.Args[1], i-width)
	}
	return m.unlike(p.Args[0], i)
}

func (m model) rows(p api.Plan) int {
	switch p.Op {
	case api.Scan:
		rows, _ := m.table(p.Table, 0)
		return rows
	case api.Filter:
		return m.left(m.rows(p.Args[0]), p.Exprs[0], func(i int) int { return m.unlike(p.Args[0], i) })
	case api.Join, api.LeftJoin:
		pairs := product(m.rows(p.Args[0]), m.rows(p.Args[1]))
		rows := m.left(pairs, p.Exprs[0], func(i int) int { return m.unlikeOfBoth(p, i) })
		if p.Op == api.LeftJoin {
			rows = max(rows, m.rows(p.Args[0]))
		}
		return rows
	case api.Group:
		count := 1
		for _, column := range p.Cols {
			count = product(count, m.unlike(p.Args[0], column))
		}
		if len(p.Cols) > 0 {
			count = min(count, m.rows(p.Args[0]))
		}
		return count
	case api.Distinct:
		return ratio(m.rows(p.Args[0]), 2)
	case api.Union:
		total := 0
		for _, arg := range p.Args {
			total = sum(total, m.rows(arg))
		}
		return total
	case api.Top:
		return min(p.N, m.rows(p.Args[0]))
	case api.Empty:
		return 0
	}
	return m.rows(p.Args[0])
}

func (m model) left(rows int, condition api.Expr, unlike func(i int) int) int {
	for _, part := range expr.Parts(condition) {
		var ops []int
		for _, e := range part.Args {
			ops = append(ops, e.Op)
		}
		switch {
		case part.Op == api.Eq && ops[0] == api.Col && ops[1] == api.Const:
			rows = ratio(rows, unlike(part.Args[0].N))
		case part.Op == api.Eq && ops[0] == api.Const && ops[1] == api.Col:
			rows = ratio(rows, unlike(part.Args[1].N))
		case part.Op == api.Eq && ops[0] == api.Col && ops[1] == api.Col:
			rows = ratio(rows, max(unlike(part.Args[0].N), unlike(part.Args[1].N)))
		case part.Op == api.Ne, part.Op == api.Lt, part.Op == api.Le, part.Op == api.Gt, part.Op == api.Ge:
			rows = ratio(rows, 3)
		case part.Op == api.Const && cell.True(part.V):
		case part.Op == api.Const:
			rows = 0
		default:
			rows = ratio(rows, 2)
		}
	}
	return rows
}

func (m model) cost(p api.Plan) int {
	total := 0
	for _, arg := range p.Args {
		total = sum(total, m.cost(arg))
	}
	switch p.Op {
	case api.Scan, api.Empty:
		return sum(total, m.rows(p))
	case api.Filter, api.Project, api.Union:
		for _, arg := range p.Args {
			total = sum(total, m.rows(arg))
		}
		return total
	case api.Join, api.LeftJoin:
		first, second := m.rows(p.Args[0]), m.rows(p.Args[1])
		if m.ties(p) {
			return sum(total, first, second, m.rows(p))
		}
		return sum(total, product(first, second), m.rows(p))
	}
	for _, arg := range p.Args {
		rows := m.rows(arg)
		total = sum(total, product(rows, max(1, big.NewInt(int64(rows)).BitLen())))
	}
	return sum(total, m.rows(p))
}

// ties: is a part of a join's condition Eq of a column of each side?
func (m model) ties(p api.Plan) bool {
	width := m.width(p.Args[0])
	for _, part := range expr.Parts(p.Exprs[0]) {
		if part.Op != api.Eq || part.Args[0].Op != api.Col || part.Args[1].Op != api.Col {
			continue
		}
		a, b := part.Args[0].N, part.Args[1].N
		if a < width && b >= width || b < width && a >= width {
			return true
		}
	}
	return false
}

func TestFiguresAreWhatTheWordsSay(t *testing.T) {
	for seed := range int64(3000) {
		m := made(seed, 3)
		p, stats := m.small(4), m.stats()
		if seed%3 == 0 {
			p = m.spread(2 + m.Intn(3))
		}
		words := model{m.tables, stats}
		rows, cost := reckoned(t, p, m.tables, stats)
		if rows != words.rows(p) || cost != words.cost(p) {
			t.Fatalf("%s with %v: %d rows, cost %d, not %d and %d", printed(p), stats, rows, cost, words.rows(p), words.cost(p))
		}
	}
}
