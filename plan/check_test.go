package plan_test

import (
	"math"
	"slices"
	"testing"

	"tallyhouse/api"
	"tallyhouse/plan"
)

// many: tables of several kinds: w is broad, x as broad as may be.
func many() []api.Table {
	return append(example(), table("u", "tti"), table("w", "iiiiiiiiiiiiiiiiiiii"), table("x", "iiiiiiiiiiiiiiiiiiiiiiiiiiiiiiii"))
}

func TestKinds(t *testing.T) {
	const i, x = api.Int, api.Text
	for text, want := range map[string][]int{
		"(scan t)":                                                                   {i, x},
		"(scan u)":                                                                   {x, x, i},
		"(filter #0 (scan t))":                                                       {i, x},
		"(filter null (scan u))":                                                     {x, x, i},
		"(filter (if #2 null null) (scan u))":                                        {x, x, i},
		"(project (#1) (scan t))":                                                    {x},
		"(project (null) (scan t))":                                                  {i},
		"(project ((if #0 null null)) (scan t))":                                     {i},
		"(project ((if #0 null #1) \"\" 5) (scan t))":                                {x, x, i},
		"(project ((cat #1 null) (len #1)) (scan t))":                                {x, i},
		"(join (eq #1 #2) (scan t) (scan u))":                                        {i, x, x, x, i},
		"(leftjoin (eq #1 #2) (scan t) (scan u))":                                    {i, x, x, x, i},
		"(join #4 (scan u) (scan w))":                                                append([]int{x, x, i}, ints(20)...),
		"(group (2 0) () (scan u))":                                                  {i, x},
		"(group () ((countall 0)) (scan u))":                                         {i},
		"(group () ((count 0) (counteach 1)) (scan u))":                              {i, i},
		"(group () ((least 0) (most 1)) (scan u))":                                   {x, x},
		"(group () ((least 2) (most 2)) (scan u))":                                   {i, i},
		"(group (1) ((sum 2) (most 0)) (scan u))":                                    {x, i, x},
		"(distinct (scan t))":                                                        {i, x},
		"(union (scan t) (project (#2 #0) (scan u)) (empty (int text)))":             {i, x},
		"(top (1) 5 5 (scan t))":                                                     {i, x},
		"(window number 0 0 () () (scan t))":                                         {i, x, i},
		"(window rank 0 0 (1) (0) (scan t))":                                         {i, x, i},
		"(window dense 0 0 () () (scan u))":                                          {x, x, i, i},
		"(window sumover 0 1 () () (scan t))":                                        {i, x, i},
		"(window countover 1 1 () () (scan t))":                                      {i, x, i},
		"(window ahead 0 1 () () (scan t))":                                          {i, x, i},
		"(window ahead 1 1 () () (scan t))":                                          {i, x, x},
		"(minus (scan t) (empty (int text)))":                                        {i, x},
		"(empty (text int text))":                                                    {x, i, x},
		"(join 1 (scan w) (project (#0 #0 #0 #0 #0 #0 #0 #0 #0 #0 #0 #0) (scan t)))": ints(32),
		"(scan x)":                  ints(32),
		"(union (scan x) (scan x))": ints(32),
		"(group (0 1 2 3 4 5 6 7 8 9 10 11 12 13 14 15 16 17 18 19 20 21 22 23 24 25 26 27 28 29 30) ((countall 0)) (scan x))":                                             ints(32),
		"(window number 0 0 () () (project (#0 #1 #2 #3 #4 #5 #6 #7 #8 #9 #10 #11 #12 #13 #14 #15 #16 #17 #18 #19 #20 #21 #22 #23 #24 #25 #26 #27 #28 #29 #30) (scan x)))": ints(32),
	} {
		if kinds, e := plan.Check(parsed(t, text), many()); e != api.OK || !slices.Equal(kinds, want) {
			t.Errorf("%s is of the kinds %v, error %d, not %v", text, kinds, e, want)
		}
	}
}

func TestCheckRefuses(t *testing.T) {
	for text, want := range map[string]api.Errno{
		"(scan z)":             api.ErrAbsent,
		"(distinct (scan tt))": api.ErrAbsent,
		"(filter #2 (scan t))": api.ErrArg,
		"(filter (and (eq #0 #0) (not #9)) (scan t))":  api.ErrArg,
		"(filter #9223372036854775807 (scan t))":       api.ErrArg,
		"(project (#0 #2) (scan t))":                   api.ErrArg,
		"(join #5 (scan t) (scan u))":                  api.ErrArg,
		"(leftjoin #5 (scan t) (scan u))":              api.ErrArg,
		"(group (2) () (scan t))":                      api.ErrArg,
		"(group (0 9223372036854775807) () (scan t))":  api.ErrArg,
		"(group () ((count 2)) (scan t))":              api.ErrArg,
		"(group () ((countall 0) (sum 2)) (scan t))":   api.ErrArg,
		"(top (2) 1 1 (scan t))":                       api.ErrArg,
		"(top (0 (desc 2)) 1 1 (scan t))":              api.ErrArg,
		"(window number 0 0 (2) () (scan t))":          api.ErrArg,
		"(window number 0 0 () (2) (scan t))":          api.ErrArg,
		"(window sumover 2 0 () () (scan t))":          api.ErrArg,
		"(window countover 2 0 () () (scan t))":        api.ErrArg,
		"(window ahead 2 0 () () (scan t))":            api.ErrArg,
		"(join 1 (scan x) (scan t))":                   api.ErrArg,
		"(leftjoin 1 (scan w) (scan w))":               api.ErrArg,
		"(join #39 (scan w) (scan w))":                 api.ErrArg,
		"(window number 0 0 () () (scan x))":           api.ErrArg,
		"(filter #1 (scan t))":                         api.ErrKind,
		"(filter \"\" (scan t))":                       api.ErrKind,
		"(filter (if #0 #1 null) (scan t))":            api.ErrKind,
		"(filter (add #1 1) (scan t))":                 api.ErrKind,
		"(filter (eq #0 #1) (scan t))":                 api.ErrKind,
		"(project (#0 (neg #1)) (scan t))":             api.ErrKind,
		"(project ((if #1 1 1)) (scan t))":             api.ErrKind,
		"(join #1 (scan t) (scan u))":                  api.ErrKind,
		"(join #2 (scan t) (scan u))":                  api.ErrKind,
		"(join (eq #0 #2) (scan t) (scan u))":          api.ErrKind,
		"(leftjoin #3 (scan t) (scan u))":              api.ErrKind,
		"(leftjoin (lt #0 #2) (scan t) (scan u))":      api.ErrKind,
		"(group () ((sum 1)) (scan t))":                api.ErrKind,
		"(group (0) ((sum 0) (sum 1)) (scan t))":       api.ErrKind,
		"(window sumover 1 0 () () (scan t))":          api.ErrKind,
		"(union (scan t) (scan u))":                    api.ErrKind,
		"(union (scan t) (scan t) (empty (text int)))": api.ErrKind,
		"(union (empty (int)) (empty (int int)))":      api.ErrKind,
		"(union (empty (int int)) (empty (int)))":      api.ErrKind,
		"(minus (scan t) (scan u))":                    api.ErrKind,
		"(minus (empty (int text)) (empty (int)))":     api.ErrKind,
		"(minus (empty (text)) (empty (int)))":         api.ErrKind,
	} {
		refused(t, text, parsed(t, text), many(), want)
	}
}

// wrongs of one plan each, by the error that is told.
func wrongs() map[api.Errno]api.Plan {
	return map[api.Errno]api.Plan{
		api.ErrAbsent: scan("nowhere"),
		api.ErrArg:    filter(col(7), scan("t")),
		api.ErrKind:   filter(col(1), scan("t")),
	}
}

func TestTheFirstErrorFromWithin(t *testing.T) {
	for first, p := range wrongs() {
		for second, q := range wrongs() {
			refused(t, "a Union", union(scan("t"), distinct(p), q), many(), first)
			refused(t, "a Join", join(api.Join, num(1), p, q), many(), first)
			refused(t, "a LeftJoin", join(api.LeftJoin, num(1), distinct(q), p), many(), second)
			refused(t, "a Minus", minus(p, q), many(), first)
		}
		for what, outer := range map[string]api.Plan{
			"a column that is none": filter(col(99), p),
			"a wrong kind":          project(p, of(api.Neg, txt("a"))),
			"a wrong sum":           group(p, nil, api.Agg{Fn: api.Sum, Col: 1}),
			"too many columns":      join(api.Join, num(1), scan("x"), p),
			"unlike kinds":          union(scan("u"), p),
		} {
			refused(t, what+" over another fault", outer, many(), first)
		}
	}
}

func TestWrongNumbersAreToldAheadOfWrongKinds(t *testing.T) {
	negText, none := of(api.Neg, txt("a")), col(99)
	x := scan("x")
	for what, p := range map[string]api.Plan{
		"one expression":         filter(of(api.Add, negText, none), scan("t")),
		"a later expression":     project(scan("t"), negText, col(1), none),
		"an earlier expression":  project(scan("t"), none, negText),
		"a later aggregate":      group(scan("t"), nil, api.Agg{Fn: api.Sum, Col: 1}, api.Agg{Fn: api.Count, Col: 2}),
		"an earlier aggregate":   group(scan("t"), nil, api.Agg{Fn: api.Count, Col: 2}, api.Agg{Fn: api.Sum, Col: 1}),
		"a group's column":       group(scan("t"), []int{2}, api.Agg{Fn: api.Sum, Col: 1}),
		"a window's column":      window(api.SumOver, 1, 0, scan("t"), []int{2}),
		"a window's key":         window(api.SumOver, 1, 0, scan("t"), nil, api.Key{Col: 2}),
		"too many of a Join":     join(api.Join, negText, x, x),
		"too many of a LeftJoin": join(api.LeftJoin, txt("a"), x, x),
		"too many of a Group":    group(x, rising(32), api.Agg{Fn: api.Sum}, api.Agg{Fn: api.Least}),
		"too many aggregates":    group(scan("t"), nil, slices.Repeat([]api.Agg{{Fn: api.Sum, Col: 1}}, 33)...),
		"too many of a Window":   window(api.SumOver, 31, 0, project(x, append(columns(rising(31)...), txt("a"))...), nil),
	} {
		refused(t, what, p, many(), api.ErrArg)
	}
}

func TestTheOrderOfCheck(t *testing.T) {
	bad := []api.Table{named("t", "a"), named("t", "a")}
	for what, c := range map[string]struct {
		p      api.Plan
		tables []api.Table
		want   api.Errno
	}{
		"too large ahead of tables":          {tall(41), bad, api.ErrLarge},
		"too large ahead of what is absent":  {union(scan("nowhere"), tall(41)), many(), api.ErrLarge},
		"not built ahead of tables":          {scan(""), bad, api.ErrArg},
		"not built ahead of what is absent":  {union(scan("nowhere"), scan("")), many(), api.ErrArg},
		"tables ahead of what is absent":     {scan("nowhere"), bad, api.ErrArg},
		"tables ahead of what does not fit":  {filter(txt("a"), empty(api.Int)), bad, api.ErrArg},
		"no tables":                          {scan("t"), nil, api.ErrAbsent},
		"a column too far, with no rows":     {filter(col(math.MaxInt), empty(api.Int)), nil, api.ErrArg},
		"a kind, with no rows":               {filter(txt("a"), empty(api.Int)), nil, api.ErrKind},
		"a name's beginning":                 {scan("t"), []api.Table{named("tt", "a")}, api.ErrAbsent},
		"what is not there, beside an Empty": {join(api.Join, num(0), empty(api.Int), scan("t")), nil, api.ErrAbsent},
	} {
		if kinds, e := plan.Check(c.p, c.tables); e != c.want || kinds != nil {
			t.Errorf("%s: %v, error %d, not %d", what, kinds, e, c.want)
		}
	}
	// Rows that do not fit are told by Answer alone, ahead of all else.
	rowsOff := []api.Table{table("t", "i", nil)}
	for _, p := range []api.Plan{tall(41), scan(""), scan("nowhere"), filter(col(9), scan("t")), filter(txt(""), scan("t")), scan("t")} {
		if rows, e := plan.Answer(p, rowsOff); e != api.ErrArg || rows != nil {
			t.Errorf("Answer over tables that are not good: %v, error %d", rows, e)
		}
	}
	if kinds, e := plan.Check(scan("t"), rowsOff); e != api.OK || !slices.Equal(kinds, ints(1)) {
		t.Errorf("Check looks at rows: %v, error %d", kinds, e)
	}
}
