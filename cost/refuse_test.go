package cost_test

import (
	"math"
	"slices"
	"testing"

	"tallyhouse/api"
	"tallyhouse/cost"
	"tallyhouse/plan"
)

// looped: a plan that is nested in itself.
func looped() api.Plan {
	args := make([]api.Plan, 1)
	args[0] = api.Plan{Op: api.Distinct, Args: args}
	return args[0]
}

// loopedJoin: likewise, of Joins.
func loopedJoin() api.Plan {
	args := make([]api.Plan, 2)
	args[0] = api.Plan{Op: api.Join, Exprs: []api.Expr{num(1)}, Args: args}
	args[1] = args[0]
	return args[0]
}

// loopedExpr: an expression that is nested in itself.
func loopedExpr() api.Expr {
	args := make([]api.Expr, 2)
	args[0] = api.Expr{Op: api.And, Args: args}
	args[1] = args[0]
	return args[0]
}

// tower of so many plans: all but the lowest one are of one operator.
func tower(height int, lowest api.Plan) api.Plan {
	for range height - 1 {
		lowest = distinct(lowest)
	}
	return lowest
}

func TestWhatCheckRefuses(t *testing.T) {
	good := someTables()
	twoOfAName := append(someTables(), table("t", "i"))
	for what, c := range map[string]struct {
		p      api.Plan
		tables []api.Table
	}{
		"too high":                {tower(41, scan("t")), good},
		"too many nodes":          {union(slices.Repeat([]api.Plan{scan("t")}, 400)...), good},
		"nested in itself":        {looped(), good},
		"Joins nested in Joins":   {loopedJoin(), good},
		"a condition without end": {join(api.Join, loopedExpr(), scan("t"), scan("u")), good},
		"not built":               {api.Plan{}, good},
		"an odd operator":         {api.Plan{Op: math.MaxInt}, good},
		"a Join of one plan":      {over(join(api.Join, num(1), scan("t"), scan("t")), scan("t")), good},
		"something needless":      {over(api.Plan{Op: api.Distinct, N: 1}, scan("t")), good},
		"no good tables":          {scan("t"), twoOfAName},
		"no such table":           {scan("none"), good},
		"no tables":               {scan("t"), nil},
		"no such column":          {filter(of(api.Eq, col(2), num(1)), scan("t")), good},
		"a column below 0":        {filter(of(api.Eq, col(-1), num(1)), scan("t")), good},
		"no such key":             {group(scan("t"), []int{math.MaxInt}), good},
		"a text for a condition":  {join(api.Join, col(1), scan("u"), scan("x")), good},
		"unlike kinds":            {union(scan("t"), scan("u")), good},
	} {
		_, want := plan.Check(c.p, c.tables)
		if want == api.OK {
			t.Fatalf("%s: Check takes it", what)
		}
		for _, stats := range [][]api.Stat{nil, someStats()} {
			if rows, e := cost.Rows(c.p, c.tables, stats); e != want || rows != 0 {
				t.Errorf("%s: Rows %d, error %d, not %d", what, rows, e, want)
			}
			if costs, e := cost.Cost(c.p, c.tables, stats); e != want || costs != 0 {
				t.Errorf("%s: Cost %d, error %d, not %d", what, costs, e, want)
			}
			if made, e := cost.Best(c.p, c.tables, stats); e != want || !isZero(made) {
				t.Errorf("%s: Best %v, error %d, not %d", what, made.Op, e, want)
			}
		}
	}
}
