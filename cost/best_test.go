package cost_test

import (
	"slices"
	"strings"
	"testing"

	"tallyhouse/api"
	"tallyhouse/cost"
	"tallyhouse/expr"
	"tallyhouse/plan"
)

// leafOf a spread: a plan, and the numbers of its columns in the whole spread.
type leafOf struct {
	p       api.Plan
	columns []int
}

// apart: the leaves of a spread, the parts of its conditions in their order, and
// how many columns there are from one number on.
func apart(p api.Plan, from int, tables []api.Table) ([]leafOf, []api.Expr, int) {
	if p.Op != api.Join {
		kinds, _ := plan.Check(p, tables)
		return []leafOf{{p, rising(from + len(kinds))[from:]}}, nil, len(kinds)
	}
	first, parts, a := apart(p.Args[0], from, tables)
	second, more, b := apart(p.Args[1], from+a, tables)
	parts = append(parts, more...)
	for _, part := range expr.Parts(p.Exprs[0]) {
		part, _ = expr.Moved(part, rising(from + a + b)[from:])
		parts = append(parts, part)
	}
	return append(first, second...), parts, a + b
}

// shape: a leaf, or a Join of two, with the columns beneath it.
type shape struct {
	leaf          *api.Plan
	first, second *shape
	columns       []int
	parts         []api.Expr
}

// shapes over leaves that stand in this order.
func shapes(leaves []leafOf) []func() *shape {
	if len(leaves) == 1 {
		one := leaves[0]
		return []func() *shape{func() *shape { return &shape{leaf: &one.p, columns: one.columns} }}
	}
	var list []func() *shape
	for cut := 1; cut < len(leaves); cut++ {
		for _, first := range shapes(leaves[:cut]) {
			for _, second := range shapes(leaves[cut:]) {
				list = append(list, func() *shape {
					a, b := first(), second()
					return &shape{first: a, second: b, columns: slices.Concat(a.columns, b.columns)}
				})
			}
		}
	}
	return list
}

// lay a part into the innermost Join beneath which all its columns are.
func (s *shape) lay(part api.Expr) {
	used := expr.Columns(part)
	for _, side := range []*shape{s.first, s.second} {
		outside := slices.ContainsFunc(used, func(column int) bool { return !slices.Contains(side.columns, column) })
		if side.leaf == nil && !outside && len(used) > 0 {
			side.lay(part)
			return
		}
	}
	s.parts = append(s.parts, part)
}

func (s *shape) plan(width int) api.Plan {
	if s.leaf != nil {
		return *s.leaf
	}
	to := make([]int, width)
	for i, column := range s.columns {
		to[column] = i
	}
	var parts []api.Expr
	for _, part := range s.parts {
		part, _ = expr.Moved(part, to)
		parts = append(parts, part)
	}
	return join(api.Join, expr.All(parts), s.first.plan(width), s.second.plan(width))
}

// whole: the tree of a spread of so many columns, with a Project if it needs
// one.
func (s *shape) whole(width int) api.Plan {
	p := s.plan(width)
	if slices.Equal(s.columns, rising(width)) {
		return p
	}
	var exprs []api.Expr
	for column := range width {
		exprs = append(exprs, col(slices.Index(s.columns, column)))
	}
	return project(p, exprs...)
}

// orders of leaves: each one.
func orders(leaves []leafOf) [][]leafOf {
	if len(leaves) == 0 {
		return [][]leafOf{nil}
	}
	var list [][]leafOf
	for i, one := range leaves {
		others := slices.Delete(slices.Clone(leaves), i, i+1)
		for _, order := range orders(others) {
			list = append(list, append([]leafOf{one}, order...))
		}
	}
	return list
}

// eachTree of a spread, as the document says it.
func eachTree(p api.Plan, tables []api.Table) []api.Plan {
	leaves, parts, width := apart(p, 0, tables)
	var list []api.Plan
	for _, order := range orders(leaves) {
		for _, made := range shapes(order) {
			s := made()
			for _, part := range parts {
				s.lay(part)
			}
			list = append(list, s.whole(width))
		}
	}
	return list
}

// notAboveAnyTree: costs what Best answers of a spread no more than any tree of
// its plans that Check takes? How many of these it does not take.
func notAboveAnyTree(t *testing.T, p api.Plan, tables []api.Table, stats []api.Stat) int {
	t.Helper()
	_, least := best(t, p, tables, stats)
	refused := 0
	for _, tree := range eachTree(p, tables) {
		costs, e := cost.Cost(tree, tables, stats)
		if e != api.OK {
			refused++
		} else if costs < least {
			t.Fatalf("%s with %v: Best costs %d, but %s costs %d", printed(p), stats, least, printed(tree), costs)
		}
	}
	return refused
}

func TestBestOfSpreads(t *testing.T) {
	for leaves, count := range map[int]int{2: 300, 3: 300, 4: 100, 5: 25} {
		for seed := range int64(count) {
			m := made(seed, 3)
			notAboveAnyTree(t, m.spread(leaves), m.tables, m.stats())
		}
	}
}

func TestBestMeansTheSame(t *testing.T) {
	lower := 0
	for seed := range int64(600) {
		m := made(seed, 3)
		p, stats := m.small(4), m.stats()
		if seed%2 == 0 {
			p = m.spread(1 + m.Intn(5))
		}
		if span(p, m.tables) > 20000 {
			continue
		}
		q, least := best(t, p, m.tables, stats)
		keepsMeaning(t, p, q, m.tables)
		if _, before := reckoned(t, p, m.tables, stats); least < before {
			lower++
		}
	}
	if lower < 60 {
		t.Errorf("only %d became cheaper", lower)
	}
}

func TestBestOfSomePlans(t *testing.T) {
	tables := []api.Table{
		table("big", "ii", []api.Value{n(1), n(2)}, []api.Value{n(2), n(2)}, []api.Value{n(3), null}),
		table("mid", "ii", []api.Value{n(2), n(5)}, []api.Value{n(2), n(6)}),
		table("few", "i", []api.Value{n(5)}, []api.Value{n(9)}),
	}
	stats := []api.Stat{
		{Table: "big", Rows: 100000, Each: []int{100000, 1000}},
		{Table: "mid", Rows: 1000, Each: []int{1000, 10}},
		{Table: "few", Rows: 10, Each: []int{10}},
	}
	for _, c := range []struct{ from, to string }{
		// Nothing to be had.
		{"(scan big)", "(scan big)"},
		{"(join (eq #1 #2) (scan big) (scan mid))", "(join (eq #1 #2) (scan big) (scan mid))"},
		{"(leftjoin 1 (scan big) (scan mid))", "(leftjoin 1 (scan big) (scan mid))"},
		// The pairs that nothing ties are not made.
		{"(join (and (eq #1 #2) (eq #3 #4)) (join 1 (scan big) (scan mid)) (scan few))",
			"(join (eq #3 #4) (join (eq #1 #2) (scan big) (scan mid)) (scan few))"},
		{"(join (and (eq #0 #3) (eq #4 #2)) (join 1 (scan few) (scan big)) (scan mid))",
			"(project (#0 #3 #4 #1 #2) (join (eq #4 #1) (join (eq #0 #2) (scan few) (scan mid)) (scan big)))"},
		// A part of one plan alone stands as far within as a Join is.
		{"(join (and (eq #0 3) (eq #3 #4)) (join (eq #1 #2) (scan big) (scan mid)) (scan few))",
			"(join (eq #3 #4) (join (and (eq #1 #2) (eq #0 3)) (scan big) (scan mid)) (scan few))"},
		// Within other plans too.
		{"(group (0) ((countall 0)) (distinct (join (and (eq #1 #2) (eq #3 #4)) (join 1 (scan big) (scan mid)) (scan few))))",
			"(group (0) ((countall 0)) (distinct (join (eq #3 #4) (join (eq #1 #2) (scan big) (scan mid)) (scan few))))"},
		{"(minus (join (eq #1 #2) (scan mid) (join 1 (scan big) (scan few))) (join (eq #1 #2) (scan mid) (join 1 (scan big) (scan few))))",
			"(minus (join 1 (join (eq #1 #2) (scan mid) (scan big)) (scan few)) (join 1 (join (eq #1 #2) (scan mid) (scan big)) (scan few)))"},
	} {
		p := parsed(t, c.from)
		made, _ := best(t, p, tables, stats)
		_, want := reckoned(t, parsed(t, c.to), tables, stats)
		if _, costs := reckoned(t, made, tables, stats); costs > want {
			t.Errorf("%s becomes %s, which costs %d, and not %s, which costs %d", c.from, printed(made), costs, c.to, want)
		}
		keepsMeaning(t, p, made, tables)
	}
}

// TestMoreThanFivePlans: nothing but the cost of the plan itself is promised.
func TestMoreThanFivePlans(t *testing.T) {
	for seed := range int64(60) {
		m := made(seed, 2)
		p := m.spread(6 + m.Intn(3))
		if len(m.kinds(p)) == 0 {
			continue
		}
		q, _ := best(t, p, m.tables, m.stats())
		if span(p, m.tables) <= 20000 {
			keepsMeaning(t, p, q, m.tables)
		}
	}
}

// balanced: an And of so many parts, that is not high.
func balanced(parts []api.Expr) api.Expr {
	if len(parts) == 1 {
		return parts[0]
	}
	half := len(parts) / 2
	return of(api.And, balanced(parts[:half]), balanced(parts[half:]))
}

// TestTreesThatAreTooHigh: All of many parts may be an expression that is not
// built, and a Project may make a plan too high.
func TestTreesThatAreTooHigh(t *testing.T) {
	tables := []api.Table{table("a", "i"), table("b", "i"), table("c", "i")}
	stats := []api.Stat{{Table: "a", Rows: 1000, Each: []int{2}}, {Table: "b", Rows: 900, Each: []int{900}}, {Table: "c", Rows: 5, Each: []int{5}}}
	refused := 0
	for count := 36; count <= 44; count++ {
		// All of these stand in the Join of a and c, whichever that is.
		parts := slices.Repeat([]api.Expr{of(api.Eq, col(0), col(2))}, count)
		p := join(api.Join, balanced(append(parts, of(api.Eq, col(0), col(1)))), join(api.Join, num(1), scan("a"), scan("b")), scan("c"))
		refused += notAboveAnyTree(t, p, tables, stats)
	}
	for height := 34; height <= 38; height++ {
		for _, order := range [][]int{{0, 1, 2}, {2, 1, 0}, {1, 0, 2}, {0, 2, 1}} {
			leaves := []api.Plan{tower(height, scan("a")), scan("b"), scan("c")}
			p := join(api.Join, of(api.Eq, col(order[0]), col(order[2])), join(api.Join, num(1), leaves[order[0]], leaves[order[1]]), leaves[order[2]])
			refused += notAboveAnyTree(t, p, tables, stats)
		}
	}
	if refused < 20 {
		t.Errorf("only %d trees are refused", refused)
	}
}

// TestTreesOfTooManyNodes: a Project, or a constant 1, may be too much.
func TestTreesOfTooManyNodes(t *testing.T) {
	tables := []api.Table{table("a", "i"), table("b", "i"), table("c", "i")}
	stats := []api.Stat{{Table: "a", Rows: 1000, Each: []int{2}}, {Table: "b", Rows: 900, Each: []int{900}}, {Table: "c", Rows: 5, Each: []int{5}}}
	refused := 0
	for nodes := 380; nodes <= 400; nodes++ {
		// 2 Joins with 3 and 3 nodes in their conditions, 2 Scans, a Union.
		many := union(slices.Repeat([]api.Plan{scan("a")}, nodes-11)...)
		for _, c := range []struct{ inner, outer api.Expr }{
			{of(api.Eq, col(0), col(0)), of(api.Eq, col(0), col(2))},
			{of(api.Eq, col(0), col(1)), of(api.Eq, col(1), col(2))},
			{of(api.Lt, col(0), col(1)), of(api.Eq, col(0), col(2))},
		} {
			p := join(api.Join, c.outer, join(api.Join, c.inner, many, scan("b")), scan("c"))
			refused += notAboveAnyTree(t, p, tables, stats)
		}
	}
	if refused < 20 {
		t.Errorf("only %d trees are refused", refused)
	}
}

// TestBestOfGreatPlans: many spreads of five plans in one plan.
func TestBestOfGreatPlans(t *testing.T) {
	tables := []api.Table{table("a", "i"), table("b", "i")}
	five := "(join 1 (join 1 (join 1 (join 1 (scan a) (scan a)) (scan b)) (scan a)) (scan b))"
	p := parsed(t, "(union "+strings.Repeat(five, 30)+")")
	q, _ := best(t, p, tables, nil)
	if len(q.Args) != 30 {
		t.Errorf("%d Args", len(q.Args))
	}
	wide := table("a", strings.Repeat("i", 6))
	p = parsed(t, "(join (eq #0 #12) (join (eq #3 #13) (join 1 (scan a) (scan a)) (scan a)) (join 1 (scan a) (scan a)))")
	notAboveAnyTree(t, p, []api.Table{wide}, nil)
	if _, e := cost.Best(join(api.Join, num(1), p, scan("a")), []api.Table{wide}, nil); e != api.ErrArg {
		t.Errorf("36 columns: error %d", e)
	}
}
