package plan_test

import (
	"math"
	"slices"
	"strconv"
	"testing"

	"tallyhouse/api"
	"tallyhouse/plan"
)

// plain: of each operator a plan that is built, with what it needs.
func plain() map[int]api.Plan {
	return map[int]api.Plan{
		api.Scan:     scan("t"),
		api.Filter:   filter(num(1), scan("t")),
		api.Project:  project(scan("t"), col(0)),
		api.Join:     join(api.Join, num(1), scan("t"), scan("t")),
		api.LeftJoin: join(api.LeftJoin, num(1), scan("t"), scan("t")),
		api.Group:    group(scan("t"), []int{0}, api.Agg{Fn: api.Count, Col: 1}),
		api.Distinct: distinct(scan("t")),
		api.Union:    union(scan("t")),
		api.Top:      top(scan("t"), 1, 1, api.Key{Col: 1}),
		api.Window:   window(api.SumOver, 1, 1, scan("t"), []int{0}, api.Key{Col: 1}),
		api.Minus:    minus(scan("t"), scan("t")),
		api.Empty:    empty(api.Int),
	}
}

// needs: what each operator needs of a plan beside Args.
var needs = map[int][]string{
	api.Scan:     {"Table"},
	api.Filter:   {"Exprs"},
	api.Project:  {"Exprs"},
	api.Join:     {"Exprs"},
	api.LeftJoin: {"Exprs"},
	api.Group:    {"Cols", "Aggs"},
	api.Distinct: nil,
	api.Union:    nil,
	api.Top:      {"Keys", "N", "Off"},
	api.Window:   {"Cols", "Keys", "Fn", "Col", "N"},
	api.Minus:    nil,
	api.Empty:    {"Cols"},
}

// fill: each field of a plan, with something in it.
func fill() map[string]func(p *api.Plan, x int) {
	return map[string]func(p *api.Plan, x int){
		"Table": func(p *api.Plan, x int) { p.Table = "t" + strconv.Itoa(x) },
		"Exprs": func(p *api.Plan, x int) { p.Exprs = []api.Expr{num(int64(x))} },
		"Cols":  func(p *api.Plan, x int) { p.Cols = []int{x} },
		"Keys":  func(p *api.Plan, x int) { p.Keys = []api.Key{{Col: x}} },
		"Aggs":  func(p *api.Plan, x int) { p.Aggs = []api.Agg{{Fn: x, Col: x}} },
		"Fn":    func(p *api.Plan, x int) { p.Fn = x },
		"Col":   func(p *api.Plan, x int) { p.Col = x },
		"N":     func(p *api.Plan, x int) { p.N = x },
		"Off":   func(p *api.Plan, x int) { p.Off = x },
	}
}

func TestEachOperatorIsBuiltWithWhatItNeeds(t *testing.T) {
	for op, p := range plain() {
		if e := plan.Built(p); e != api.OK {
			t.Errorf("operator %d: error %d", op, e)
		}
		if _, e := plan.Print(p); e != api.OK {
			t.Errorf("operator %d: Print gives %d", op, e)
		}
	}
}

func TestNothingElse(t *testing.T) {
	for op, p := range plain() {
		for field, put := range fill() {
			if slices.Contains(needs[op], field) {
				continue
			}
			for _, x := range []int{1, -1, math.MinInt} {
				other := p
				put(&other, x)
				notBuilt(t, "operator "+strconv.Itoa(op)+" with "+field+" of "+strconv.Itoa(x), other, api.ErrArg)
			}
		}
		// A list without anything in it is as good as none.
		p.Exprs, p.Cols, p.Keys = append([]api.Expr{}, p.Exprs...), append([]int{}, p.Cols...), append([]api.Key{}, p.Keys...)
		p.Aggs, p.Args = append([]api.Agg{}, p.Aggs...), append([]api.Plan{}, p.Args...)
		if e := plan.Built(p); e != api.OK {
			t.Errorf("operator %d with empty lists: error %d", op, e)
		}
	}
}

func TestHowManyArgs(t *testing.T) {
	for op, p := range plain() {
		for count := range 5 {
			other := over(p, slices.Repeat([]api.Plan{scan("t")}, count)...)
			if count == len(p.Args) || op == api.Union && count > 0 {
				if e := plan.Built(other); e != api.OK {
					t.Errorf("operator %d with %d Args: error %d", op, count, e)
				}
			} else {
				notBuilt(t, "operator "+strconv.Itoa(op)+" with Args: "+strconv.Itoa(count), other, api.ErrArg)
			}
		}
		for i := range p.Args {
			args := slices.Clone(p.Args)
			args[i] = scan("")
			notBuilt(t, "operator "+strconv.Itoa(op)+" with a wrong Arg", over(p, args...), api.ErrArg)
			args[i] = distinct(distinct(over(scan("t"), scan("t"))))
			notBuilt(t, "operator "+strconv.Itoa(op)+" with a wrong Arg within", over(p, args...), api.ErrArg)
		}
	}
}

func TestWhatIsBuilt(t *testing.T) {
	sum := api.Agg{Fn: api.Sum, Col: 3}
	for what, p := range map[string]api.Plan{
		"a long name":                     scan("a" + long(39)),
		"a column that is nowhere":        filter(col(math.MaxInt), scan("t")),
		"a null":                          filter(con(null), scan("t")),
		"a long text":                     filter(txt(long(1000)), scan("t")),
		"what does not fit":               filter(of(api.Add, txt("a"), num(1)), scan("t")),
		"32 expressions":                  project(scan("t"), slices.Repeat([]api.Expr{col(0)}, 32)...),
		"groups alone":                    group(scan("t"), []int{0}),
		"aggregates alone":                group(scan("t"), nil, sum),
		"an aggregate twice":              group(scan("t"), nil, sum, sum),
		"many groups' columns":            group(scan("t"), rising(1000), sum),
		"columns far away":                group(scan("t"), []int{math.MaxInt, 0}, api.Agg{Fn: api.Least, Col: math.MaxInt}),
		"CountAll":                        group(scan("t"), nil, api.Agg{Fn: api.CountAll}),
		"CountEach":                       group(scan("t"), nil, api.Agg{Fn: api.CountEach, Col: 2}),
		"many Args":                       union(slices.Repeat([]api.Plan{scan("t")}, 399)...),
		"a Top without anything":          top(scan("t"), 0, 0),
		"a Top of all":                    top(scan("t"), math.MaxInt, math.MaxInt),
		"a Top with keys":                 top(scan("t"), 3, 0, api.Key{Col: 4, Desc: true}, api.Key{Col: 0}, api.Key{Col: math.MaxInt}),
		"Number":                          window(api.Number, 0, 0, scan("t"), nil),
		"Rank":                            window(api.Rank, 0, 0, scan("t"), []int{1, 0}, api.Key{Col: 1}),
		"Dense":                           window(api.Dense, 0, 0, scan("t"), nil, api.Key{Desc: true}),
		"SumOver":                         window(api.SumOver, 4, 7, scan("t"), nil),
		"SumOver of all":                  window(api.SumOver, 0, -1, scan("t"), nil),
		"SumOver with the least number":   window(api.SumOver, 0, math.MinInt, scan("t"), nil),
		"CountOver of all":                window(api.CountOver, math.MaxInt, -5, scan("t"), nil),
		"Ahead of itself":                 window(api.Ahead, 0, 0, scan("t"), nil),
		"Ahead":                           window(api.Ahead, 2, math.MaxInt, scan("t"), nil),
		"a column in Cols and in Keys":    window(api.Number, 0, 0, scan("t"), []int{1}, api.Key{Col: 1}),
		"an Empty of 32 kinds, one twice": empty(append(ints(31), api.Text)...),
	} {
		if e := plan.Built(p); e != api.OK {
			t.Errorf("%s: error %d", what, e)
		}
	}
}

// wrong: plans that break one rule for one that is built.
func wrong() map[string]api.Plan {
	t := scan("t")
	out := map[string]api.Plan{
		"nothing":                     {},
		"operator 0":                  over(api.Plan{}, t),
		"operator 13":                 over(api.Plan{Op: 13}, t),
		"operator -1":                 {Op: -1},
		"the greatest operator":       over(api.Plan{Op: math.MaxInt}, t),
		"the least operator":          over(api.Plan{Op: math.MinInt}, t, t),
		"a Scan without a name":       scan(""),
		"a Scan of T":                 scan("T"),
		"a Scan of 1a":                scan("1a"),
		"a Scan of #1":                scan("#1"),
		"a Scan of a name too long":   scan("a" + long(40)),
		"a Filter without expression": over(api.Plan{Op: api.Filter}, t),
		"a Filter of two":             over(api.Plan{Op: api.Filter, Exprs: columns(0, 0)}, t),
		"a Project of none":           project(t),
		"a Project of 33":             project(t, slices.Repeat([]api.Expr{col(0)}, 33)...),
		"a Join without expression":   over(api.Plan{Op: api.Join}, t, t),
		"a Join of two":               over(api.Plan{Op: api.Join, Exprs: columns(0, 0)}, t, t),
		"a LeftJoin of two":           over(api.Plan{Op: api.LeftJoin, Exprs: columns(0, 0)}, t, t),
		"a Group of nothing":          group(t, nil),
		"a Group by -1":               group(t, []int{0, -1}),
		"a Group by 1 twice":          group(t, []int{1, 0, 1}),
		"an aggregate 0":              group(t, []int{0}, api.Agg{}),
		"an aggregate 7":              group(t, []int{0}, api.Agg{Fn: 7}),
		"an aggregate -1":             group(t, []int{0}, api.Agg{Fn: api.Count}, api.Agg{Fn: -1}),
		"CountAll of 1":               group(t, nil, api.Agg{Fn: api.CountAll, Col: 1}),
		"CountAll of -1":              group(t, nil, api.Agg{Fn: api.CountAll, Col: -1}),
		"Sum of -1":                   group(t, nil, api.Agg{Fn: api.Sum, Col: -1}),
		"a Union of none":             union(),
		"a Top by -1":                 top(t, 1, 1, api.Key{Col: -1}),
		"a Top by 0 twice":            top(t, 1, 1, api.Key{}, api.Key{}),
		"a Top by 0 both ways":        top(t, 1, 1, api.Key{}, api.Key{Col: 1}, api.Key{Desc: true}),
		"a Top of -1":                 top(t, -1, 1),
		"a Top behind -1":             top(t, 1, -1),
		"a Window of function 0":      window(0, 0, 0, t, nil),
		"a Window of function 7":      window(7, 0, 0, t, nil),
		"a Window of function -1":     window(-1, 0, 0, t, nil),
		"a Window by -1":              window(api.Number, 0, 0, t, []int{-1}),
		"a Window by 1 twice":         window(api.Number, 0, 0, t, []int{1, 1}),
		"a Window ordered by -1":      window(api.Number, 0, 0, t, nil, api.Key{Col: -1}),
		"a Window ordered by 1 twice": window(api.Number, 0, 0, t, nil, api.Key{Col: 1}, api.Key{Col: 1, Desc: true}),
		"SumOver of -1":               window(api.SumOver, -1, 0, t, nil),
		"CountOver of -1":             window(api.CountOver, -1, 0, t, nil),
		"Ahead of -1":                 window(api.Ahead, -1, 0, t, nil),
		"Ahead, -1 rows":              window(api.Ahead, 0, -1, t, nil),
		"an Empty of none":            empty(),
		"an Empty of 33":              empty(ints(33)...),
		"an Empty of kind Null":       empty(api.Int, api.Null),
		"an Empty of kind 3":          empty(3),
		"an Empty of kind -1":         empty(-1, api.Int),
	}
	for what, fn := range map[string]int{"Number": api.Number, "Rank": api.Rank, "Dense": api.Dense} {
		out[what+" of 1"] = window(fn, 1, 0, t, nil)
		out[what+" with a number"] = window(fn, 0, 1, t, nil)
		out[what+" with a number below 0"] = window(fn, 0, -1, t, nil)
	}
	for what, e := range wrongExprs() {
		out["a Filter by "+what] = filter(e, t)
		out["a Project of "+what] = project(t, col(0), e)
		out["a Join by "+what] = join(api.Join, e, t, t)
		out["a LeftJoin by "+what] = join(api.LeftJoin, of(api.Not, of(api.Not, e)), t, t)
	}
	return out
}

// wrongExprs: expressions that may not stand in a plan that is built.
func wrongExprs() map[string]api.Expr {
	deep := num(1)
	for range 40 {
		deep = of(api.Neg, deep)
	}
	loop := []api.Expr{{Op: api.Neg}}
	loop[0].Args = loop
	return map[string]api.Expr{
		"nothing":                     {},
		"operator 22":                 of(22, num(1), num(1), num(1)),
		"too few parts":               of(api.Add, num(1)),
		"too many parts":              of(api.Not, num(1), num(1)),
		"column -1":                   col(-1),
		"a text too long":             txt(long(1001)),
		"41 high":                     deep,
		"what is nested in itself":    loop[0],
		"a column with a value":       {Op: api.Col, V: n(1)},
		"a column with kind 9":        {Op: api.Col, V: api.Value{Kind: 9}},
		"a constant with a number":    {Op: api.Const, N: 1, V: n(1)},
		"a number with a text":        con(api.Value{Kind: api.Int, N: 1, S: "a"}),
		"a text with a number":        con(api.Value{Kind: api.Text, N: 1, S: "a"}),
		"a null with a number":        con(api.Value{N: 1}),
		"a null with a text":          con(api.Value{S: "a"}),
		"a constant of kind 3":        con(api.Value{Kind: 3}),
		"a constant of kind -1":       con(api.Value{Kind: -1, N: 1}),
		"Not with a number":           {Op: api.Not, N: 1, Args: columns(0)},
		"Not with a value":            {Op: api.Not, V: n(1), Args: columns(0)},
		"If with a number below 0":    {Op: api.If, N: -1, Args: columns(0, 0, 0)},
		"an Add with a needless part": of(api.Add, num(1), api.Expr{Op: api.Neg, N: 2, Args: columns(0)}),
		"a needless value within":     of(api.And, of(api.Not, of(api.Eq, num(1), api.Expr{Op: api.Col, N: 1, V: s("a")})), num(1)),
	}
}

func TestWhatIsNotBuilt(t *testing.T) {
	for what, p := range wrong() {
		notBuilt(t, what, p, api.ErrArg)
		notBuilt(t, what+", within", union(scan("t"), distinct(p)), api.ErrArg)
	}
}

// tall: plans in one another, so many.
func tall(height int) api.Plan {
	p := scan("t")
	for range height - 1 {
		p = distinct(p)
	}
	return p
}

// wide: an expression of so many nodes, and low.
func wide(nodes int) api.Expr {
	switch nodes {
	case 1:
		return col(0)
	case 2:
		return of(api.Not, col(0))
	}
	return of(api.Add, wide((nodes-1)/2), wide(nodes-1-(nodes-1)/2))
}

// steep: an expression so high.
func steep(height int) api.Expr {
	e := col(0)
	for range height - 1 {
		e = of(api.Neg, e)
	}
	return e
}

func TestAsLargeAsMayBe(t *testing.T) {
	for what, p := range map[string]api.Plan{
		"40 high":                       tall(40),
		"40 high, on the right":         union(scan("t"), tall(39)),
		"400 plans":                     union(slices.Repeat([]api.Plan{scan("t")}, 399)...),
		"398 in an expression":          filter(wide(398), scan("t")),
		"an expression 40 high, and 40": filter(steep(40), tall(39)),
		"32 expressions":                project(scan("t"), append(slices.Repeat([]api.Expr{col(0)}, 31), wide(400-33))...),
		"two sides":                     join(api.Join, wide(199), filter(wide(98), scan("t")), filter(wide(98), scan("t"))),
	} {
		if e := plan.Built(p); e != api.OK {
			t.Errorf("%s: error %d", what, e)
		}
	}
}

func TestTooLarge(t *testing.T) {
	loop := []api.Plan{{Op: api.Distinct}}
	loop[0].Args = loop
	both := []api.Plan{{Op: api.Minus}, {Op: api.Minus}}
	both[0].Args, both[1].Args = both, both
	shared := scan("t")
	for range 39 {
		shared = union(shared, shared)
	}
	large := map[string]api.Plan{
		"41 high":                           tall(41),
		"41 high, on the right":             union(scan("t"), tall(40)),
		"5000 high":                         tall(5000),
		"401 plans":                         union(slices.Repeat([]api.Plan{scan("t")}, 400)...),
		"401 nodes":                         filter(wide(399), scan("t")),
		"402 nodes":                         filter(wide(400), scan("t")),
		"401 nodes on two sides":            join(api.Join, wide(200), filter(wide(98), scan("t")), filter(wide(98), scan("t"))),
		"401 nodes on two sides within":     join(api.Join, wide(199), filter(wide(98), scan("t")), filter(wide(99), scan("t"))),
		"400 expressions":                   project(scan("t"), slices.Repeat([]api.Expr{col(0)}, 399)...),
		"400 expressions that are none":     project(scan("t"), slices.Repeat([]api.Expr{{}}, 399)...),
		"400 endless ones":                  project(scan("t"), slices.Repeat([]api.Expr{wrongExprs()["what is nested in itself"]}, 1<<20)...),
		"expressions where none are needed": {Op: api.Scan, Exprs: slices.Repeat([]api.Expr{col(0)}, 400)},
		"Args where none are needed":        over(scan("t"), tall(40)),
		"no operator, but large":            over(api.Plan{Op: 99}, slices.Repeat([]api.Plan{{}}, 400)...),
		"wrong deep within, and too high":   union(scan(""), tall(40)),
		"nested in itself":                  loop[0],
		"nested in itself twice":            both[0],
		"shared":                            shared,
	}
	for what, p := range large {
		notBuilt(t, what, p, api.ErrLarge)
	}
	// An expression that is not built counts for one, however large it is.
	for what, p := range map[string]api.Plan{
		"399 nodes that are one":      filter(wide(401), scan("t")),
		"399 where none are needed":   {Op: api.Scan, Exprs: slices.Repeat([]api.Expr{col(0)}, 399)},
		"398 such expressions":        project(scan("t"), slices.Repeat([]api.Expr{wide(401)}, 398)...),
		"operator 99 with 399 within": over(api.Plan{Op: 99}, slices.Repeat([]api.Plan{{}}, 399)...),
	} {
		notBuilt(t, what, p, api.ErrArg)
	}
	for what, p := range large {
		// The tables are looked at first by Answer, last by Check.
		if rows, e := plan.Answer(p, []api.Table{{}}); e != api.ErrArg || rows != nil {
			t.Errorf("%s, with wrong tables: Answer gives %v, error %d", what, rows, e)
		}
		if kinds, e := plan.Check(p, []api.Table{{}}); e != api.ErrLarge || kinds != nil {
			t.Errorf("%s, with wrong tables: Check gives %v, error %d", what, kinds, e)
		}
	}
}
