package rule_test

import (
	"math"
	"slices"
	"testing"

	"tallyhouse/api"
	"tallyhouse/plan"
	"tallyhouse/rule"
)

// looped: a plan that is nested in itself.
func looped() api.Plan {
	args := make([]api.Plan, 1)
	args[0] = api.Plan{Op: api.Distinct, Args: args}
	return args[0]
}

// loopedExpr: an expression that is nested in itself.
func loopedExpr() api.Expr {
	args := make([]api.Expr, 1)
	args[0] = api.Expr{Op: api.Not, Args: args}
	return args[0]
}

// tower of so many plans: all but the lowest one are of one operator.
func tower(height int, lowest api.Plan) api.Plan {
	for range height - 1 {
		lowest = distinct(lowest)
	}
	return lowest
}

// chain of Ands to the right, with so many parts, over a part.
func chain(count int, last api.Expr) api.Expr {
	for range count - 1 {
		last = of(api.And, num(1), last)
	}
	return last
}

// high: an expression that is so high.
func high(height int) api.Expr {
	e := col(0)
	for range height - 1 {
		e = of(api.Not, e)
	}
	return e
}

func TestWhatCheckRefusesComesFirst(t *testing.T) {
	good := someTables()
	twoOfAName := append(someTables(), table("t", "i"))
	for what, c := range map[string]struct {
		p      api.Plan
		tables []api.Table
	}{
		"too high":               {tower(41, scan("t")), good},
		"too many nodes":         {union(slices.Repeat([]api.Plan{scan("t")}, 400)...), good},
		"nested in itself":       {looped(), good},
		"nested in itself, too":  {filter(loopedExpr(), scan("t")), good},
		"not built":              {api.Plan{}, good},
		"something needless":     {over(api.Plan{Op: api.Distinct, N: 1}, scan("t")), good},
		"no good tables":         {scan("t"), twoOfAName},
		"no such table":          {scan("none"), good},
		"no tables":              {scan("t"), nil},
		"no such column":         {filter(col(2), scan("t")), good},
		"a text for a condition": {filter(col(0), scan("x")), good},
		"unlike kinds":           {union(scan("t"), scan("u")), good},
	} {
		_, want := plan.Check(c.p, c.tables)
		if want == api.OK {
			t.Fatalf("%s: Check takes it", what)
		}
		for _, number := range []int{1, 2, 33, 0, 34, -1} {
			for _, at := range [][]int{nil, {0}, {7}, {-1}} {
				refused(t, what, number, c.p, at, c.tables, want)
			}
		}
	}
}

func TestNoSuchRule(t *testing.T) {
	for _, number := range []int{0, -1, 34, 35, 66, math.MaxInt, math.MinInt} {
		refused(t, "no rule", number, filter(num(1), scan("t")), nil, someTables(), api.ErrArg)
		refused(t, "no rule, no place", number, filter(num(1), scan("t")), []int{3}, someTables(), api.ErrArg)
	}
}

func TestNoSuchPlace(t *testing.T) {
	p := minus(filter(num(1), scan("t")), distinct(scan("t")))
	for _, at := range [][]int{{2}, {-1}, {0, 1}, {0, 0, 0}, {1, 0, 0}, {1, 0, -1}, {math.MaxInt}, {math.MinInt}, {0, math.MinInt}, make([]int, 100000)} {
		for number := range 33 {
			if made, e := rule.Apply(number+1, p, at, someTables()); e != api.ErrArg || !isZero(made) {
				t.Errorf("rule %d at %v gives %s, error %d", number+1, at, printed(made), e)
			}
		}
	}
}

// comesOut: what Apply says of what the rule makes, and that Places does not
// tell of a place that is refused.
func comesOut(t *testing.T, what string, number int, p api.Plan, at []int, want api.Errno) {
	t.Helper()
	made, e := rule.Apply(number, p, at, someTables())
	if e != want || e != api.OK && !isZero(made) {
		t.Errorf("%s: rule %d gives %s, error %d, not %d", what, number, printed(made), e, want)
	}
	places, e := rule.Places(number, p, someTables())
	told := slices.ContainsFunc(places, func(place []int) bool { return slices.Equal(place, at) })
	if e != api.OK || told != (want == api.OK) {
		t.Errorf("%s: the places of rule %d are %v, error %d", what, number, places, e)
	}
}

func TestPlansThatBecomeTooHigh(t *testing.T) {
	two := of(api.And, col(0), col(1))
	comesOut(t, "40 high", 1, tower(38, filter(two, scan("t"))), make([]int, 37), api.OK)
	comesOut(t, "41 high", 1, tower(39, filter(two, scan("t"))), make([]int, 38), api.ErrLarge)
	comesOut(t, "40 high", 9, tower(38, join(api.Join, two, scan("t"), scan("u"))), make([]int, 37), api.OK)
	comesOut(t, "41 high", 9, tower(39, join(api.Join, two, scan("t"), scan("u"))), make([]int, 38), api.ErrLarge)
	comesOut(t, "40 high", 17, tower(38, join(api.Join, num(1), scan("t"), scan("u"))), make([]int, 37), api.OK)
	comesOut(t, "41 high", 17, tower(39, join(api.Join, num(1), scan("t"), scan("u"))), make([]int, 38), api.ErrLarge)
	comesOut(t, "41 high", 32, tower(39, group(scan("t"), []int{0})), make([]int, 38), api.ErrLarge)
	comesOut(t, "as high as it was", 5, tower(39, filter(col(0), distinct(scan("t")))).Args[0], make([]int, 37), api.OK)
}

func TestPlansThatBecomeTooLarge(t *testing.T) {
	parts := func(count int) []api.Plan { return slices.Repeat([]api.Plan{scan("t")}, count) }
	// 1 and 3 and 1 and the scans; then 1 and the scans, each with 1 and 3.
	comesOut(t, "of 396 nodes", 4, filter(of(api.Not, of(api.Not, col(0))), union(parts(79)...)), nil, api.OK)
	comesOut(t, "of 401 nodes", 4, filter(of(api.Not, of(api.Not, col(0))), union(parts(80)...)), nil, api.ErrLarge)
	// 1 and 1 and the scans; then 2 and the scans, each with 1.
	comesOut(t, "of 400 nodes", 25, top(union(parts(199)...), 1, 0), nil, api.OK)
	comesOut(t, "of 402 nodes", 25, top(union(parts(200)...), 1, 0), nil, api.ErrLarge)
	// Put takes it, but it stands in the plan more than once.
	wide := of(api.Add, col(0), col(0))
	for range 6 {
		wide = of(api.Add, wide, wide)
	}
	comesOut(t, "an expression of 255 nodes, twice", 3, filter(of(api.Not, col(0)), project(scan("t"), wide)), nil, api.ErrLarge)
	comesOut(t, "likewise", 15, project(project(scan("t"), wide), col(0), col(0)), nil, api.ErrLarge)
	comesOut(t, "once", 15, project(project(scan("t"), wide), col(0), num(1)), nil, api.OK)
	comesOut(t, "more than Put takes", 15, project(project(scan("t"), wide), of(api.Add, col(0), col(0))), nil, api.ErrRule)
}

func TestExpressionsThatBecomeTooHigh(t *testing.T) {
	comesOut(t, "40 high", 2, filter(high(39), filter(high(39), scan("u"))), nil, api.OK)
	comesOut(t, "41 high", 2, filter(high(40), filter(col(0), scan("u"))), nil, api.ErrArg)
	comesOut(t, "41 high", 2, filter(col(0), filter(high(40), scan("u"))), nil, api.ErrArg)
	comesOut(t, "40 high", 8, filter(high(39), join(api.Join, high(39), scan("u"), scan("u"))), nil, api.OK)
	comesOut(t, "41 high", 8, filter(high(40), join(api.Join, col(0), scan("u"), scan("u"))), nil, api.ErrArg)
	// From the left the second of the parts stands deepest.
	deep := func(height int) api.Expr {
		return of(api.And, num(1), of(api.And, high(height), of(api.And, num(1), num(1))))
	}
	comesOut(t, "40 high", 1, filter(deep(38), scan("u")), nil, api.OK)
	comesOut(t, "expression 40 high, to the right", 1, filter(chain(40, num(1)), scan("u")), nil, api.OK)
	last := of(api.And, num(1), of(api.And, num(1), of(api.And, high(37), chain(2, num(1)))))
	comesOut(t, "39 high", 1, filter(last, scan("u")), nil, api.OK)
	many := of(api.And, num(1), of(api.And, high(38), of(api.And, num(1), of(api.And, num(1), num(1)))))
	comesOut(t, "41 high", 1, filter(many, scan("u")), nil, api.ErrArg)
	comesOut(t, "41 high", 9, join(api.Join, many, scan("u"), scan("u")), nil, api.ErrArg)
	comesOut(t, "41 high", 10, join(api.Join, many, scan("u"), scan("u")), nil, api.ErrArg)
}

func TestRowsAreNotLookedAt(t *testing.T) {
	tables := someTables()
	for i := range tables {
		tables[i].Rows = [][]api.Value{nil, {s("x"), s("y"), s("z"), s("w")}}
	}
	made, e := rule.Apply(27, filter(num(1), scan("t")), nil, tables)
	if e != api.OK || !same(made, scan("t")) {
		t.Errorf("%v, error %d", made, e)
	}
	if places, e := rule.Places(27, filter(num(1), scan("t")), tables); e != api.OK || len(places) != 1 {
		t.Errorf("%v, error %d", places, e)
	}
}
