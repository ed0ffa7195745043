package plan_test

import (
	"math"
	"slices"
	"testing"

	"tallyhouse/api"
	"tallyhouse/expr"
	"tallyhouse/plan"
)

func copyOf(p api.Plan) api.Plan {
	p.Exprs, p.Cols, p.Keys, p.Aggs, p.Args = slices.Clone(p.Exprs), slices.Clone(p.Cols), slices.Clone(p.Keys), slices.Clone(p.Aggs), slices.Clone(p.Args)
	for i, arg := range p.Args {
		p.Args[i] = copyOf(arg)
	}
	return p
}

func (m maker) odd() int {
	return []int{0, 1, 2, 3, 5, 7, 12, 13, 31, 32, 33, -1, -2, math.MaxInt, math.MinInt}[m.Intn(15)]
}

func (m maker) oddExpr() api.Expr {
	switch m.Intn(6) {
	case 0:
		return col(m.odd())
	case 1:
		return api.Expr{Op: m.odd(), N: m.odd()}
	case 2:
		return con(api.Value{Kind: m.odd(), N: int64(m.odd())})
	case 3:
		return of(m.odd(), col(0), col(1))
	case 4:
		return num(int64(m.odd()))
	}
	return of(api.Eq, col(m.Intn(3)), m.oddExpr())
}

// changed in one thing, somewhere.
func (m maker) changed(p api.Plan) api.Plan {
	if len(p.Args) > 0 && m.Intn(2) == 0 {
		i := m.Intn(len(p.Args))
		p.Args[i] = m.changed(p.Args[i])
		return p
	}
	switch m.Intn(12) {
	case 0:
		p.Op = m.odd()
	case 1:
		p.Table = []string{"", "t", "u", "T", "w"}[m.Intn(5)]
	case 2:
		p.Exprs = append(p.Exprs, m.oddExpr())
	case 3:
		p.Cols = append(p.Cols, m.odd())
	case 4:
		p.Keys = append(p.Keys, api.Key{Col: m.odd(), Desc: m.Intn(2) == 0})
	case 5:
		p.Aggs = append(p.Aggs, api.Agg{Fn: m.odd(), Col: m.odd()})
	case 6:
		p.Fn = m.odd()
	case 7:
		p.Col = m.odd()
	case 8:
		p.N = m.odd()
	case 9:
		p.Off = m.odd()
	case 10:
		p.Args = append(p.Args, scan("t"))
	default:
		if len(p.Exprs) > 0 {
			p.Exprs[m.Intn(len(p.Exprs))] = m.oddExpr()
		}
	}
	return p
}

// isBuilt: what the document says of a plan, that is not too large, in other
// words than the program: as a list of reasons why it is not built.
func isBuilt(p api.Plan) bool {
	has := map[string]bool{
		"Table": p.Table != "", "Exprs": len(p.Exprs) > 0, "Cols": len(p.Cols) > 0, "Keys": len(p.Keys) > 0, "Aggs": len(p.Aggs) > 0,
		"Fn": p.Fn != 0, "Col": p.Col != 0, "N": p.N != 0, "Off": p.Off != 0,
	}
	for field, is := range has {
		if is && !slices.Contains(needs[p.Op], field) {
			return false
		}
	}
	args := map[int]int{api.Scan: 0, api.Empty: 0, api.Join: 2, api.LeftJoin: 2, api.Minus: 2}
	want, given := args[p.Op]
	if !given {
		want = 1
	}
	if _, there := needs[p.Op]; !there || len(p.Args) != want && !(p.Op == api.Union && len(p.Args) > 1) {
		return false
	}
	if p.Op == api.Scan && !slices.Contains([]string{"t", "u", "v", "w"}, p.Table) {
		return false
	}
	if slices.Contains([]int{api.Filter, api.Join, api.LeftJoin}, p.Op) && len(p.Exprs) != 1 || p.Op == api.Project && (len(p.Exprs) < 1 || len(p.Exprs) > 32) {
		return false
	}
	if p.Op == api.Group && !has["Cols"] && !has["Aggs"] || p.Op == api.Empty && (len(p.Cols) == 0 || len(p.Cols) > 32) {
		return false
	}
	return numbersAreRight(p) && !slices.ContainsFunc(p.Exprs, func(e api.Expr) bool { return !isNeat(e) }) && !slices.ContainsFunc(p.Args, func(arg api.Plan) bool { return !isBuilt(arg) })
}

func numbersAreRight(p api.Plan) bool {
	seen := map[int]bool{}
	for _, c := range p.Cols {
		if p.Op == api.Empty && c != api.Int && c != api.Text || p.Op != api.Empty && (c < 0 || seen[c]) {
			return false
		}
		seen[c] = true
	}
	seen = map[int]bool{}
	for _, key := range p.Keys {
		if key.Col < 0 || seen[key.Col] {
			return false
		}
		seen[key.Col] = true
	}
	for _, agg := range p.Aggs {
		if agg.Col < 0 || agg.Fn < 1 || agg.Fn > 6 || agg.Fn == api.CountAll && agg.Col > 0 {
			return false
		}
	}
	if p.Op == api.Window {
		if p.Fn < 1 || p.Fn > 6 || p.Fn < api.SumOver && (p.Col != 0 || p.N != 0) || p.Fn == api.Ahead && p.N < 0 {
			return false
		}
	} else if p.N < 0 {
		return false
	}
	return p.Col >= 0 && p.Off >= 0
}

// isNeat: is it built, with nothing in it that expr.All would leave out?
func isNeat(e api.Expr) bool {
	nodes, _ := expr.Size(e)
	return nodes <= api.MaxNodes && sameExpr(expr.All([]api.Expr{e}), e)
}

// Plans that are nearly right are judged as the document says, and what is
// taken is answered.
func TestManyPlansThatAreNearlyRight(t *testing.T) {
	times := map[api.Errno]int{}
	each(8, 6000, func(m maker, p api.Plan) {
		p = m.changed(copyOf(p))
		built := plan.Built(p)
		if built != api.ErrLarge && (built == api.OK) != isBuilt(p) {
			t.Fatalf("Built(%v) = %d", p, built)
		}
		text, e := plan.Print(p)
		if e != built || (e == api.OK) != (text != "") {
			t.Fatalf("Print(%v) = %s, error %d", p, text, e)
		}
		if again, e := plan.Parse(text); built == api.OK && len(text) <= api.MaxLine && (e != api.OK || !same(again, p)) {
			t.Fatalf("Parse(%s) = %v, error %d", text, again, e)
		}
		kinds, e := plan.Check(p, m.tables)
		rows, f := plan.Answer(p, m.tables)
		if e != f || built != api.OK && e != built || e != api.OK && (kinds != nil || rows != nil) {
			t.Fatalf("%v: Built %d, Check %d, Answer %d", p, built, e, f)
		}
		if e == api.OK && !sameRows(rows, spelled(p, m.tables)) {
			t.Fatalf("%s answers %s", text, show(rows))
		}
		times[e]++
	})
	for _, e := range []api.Errno{api.OK, api.ErrArg, api.ErrKind, api.ErrAbsent} {
		if times[e] < 100 {
			t.Errorf("error %d was told %d times", e, times[e])
		}
	}
}
