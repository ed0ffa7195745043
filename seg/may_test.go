package seg_test

import (
	"math"
	"math/rand"
	"slices"
	"testing"

	"tallyhouse/api"
	"tallyhouse/cell"
	"tallyhouse/expr"
	"tallyhouse/seg"
)

func col(i int) api.Expr { return api.Expr{Op: api.Col, N: i} }

func con(v api.Value) api.Expr { return api.Expr{Op: api.Const, V: v} }

func num(x int64) api.Expr { return con(n(x)) }

func txt(x string) api.Expr { return con(s(x)) }

func of(op int, parts ...api.Expr) api.Expr { return api.Expr{Op: op, Args: parts} }

// may of e be true over these columns?
func may(t *testing.T, kinds []int, h api.Head, e api.Expr, want bool) {
	t.Helper()
	if got, err := seg.May(kinds, h, e); got != want || err != api.OK {
		t.Errorf("May(%v, %v, %v) = %v, error %d, not %v", kinds, h, e, got, err, want)
	}
}

// single: what is told of a segment of one column.
func single(low, high api.Value, nulls int) api.Head {
	return api.Head{Rows: 10, Low: []api.Value{low}, High: []api.Value{high}, Nulls: []int{nulls}}
}

// A number between Low and High may be there: it may be true just if it is
// true of one of these.
func TestMayOfComparisonsWithNumbers(t *testing.T) {
	for low := int64(-3); low <= 3; low++ {
		for high := low; high <= 3; high++ {
			for c := int64(-5); c <= 5; c++ {
				for op := api.Eq; op <= api.Ge; op++ {
					left, right := false, false
					for x := low; x <= high; x++ {
						left = left || cell.Test(op, n(x), n(c)) == n(1)
						right = right || cell.Test(op, n(c), n(x)) == n(1)
					}
					for _, nulls := range []int{0, 4} {
						h := single(n(low), n(high), nulls)
						may(t, []int{api.Int}, h, of(op, col(0), num(c)), left)
						may(t, []int{api.Int}, h, of(op, num(c), col(0)), right)
					}
				}
			}
		}
	}
}

func TestMayOfComparisons(t *testing.T) {
	least, most := n(math.MinInt64), n(math.MaxInt64)
	for _, c := range []struct {
		low, high, v api.Value
		// Whether Eq, Ne, Lt, Le, Gt, Ge may be true.
		want [6]bool
	}{
		{s("b"), s("d"), s("a"), [6]bool{false, true, false, false, true, true}},
		{s("b"), s("d"), s("b"), [6]bool{true, true, false, true, true, true}},
		{s("b"), s("d"), s("c"), [6]bool{true, true, true, true, true, true}},
		{s("b"), s("d"), s("d"), [6]bool{true, true, true, true, false, true}},
		{s("b"), s("d"), s("d\x00"), [6]bool{false, true, true, true, false, false}},
		{s("b"), s("b"), s("b"), [6]bool{true, false, false, true, false, true}},
		{s("b"), s("b"), s(""), [6]bool{false, true, false, false, true, true}},
		{s(""), s(""), s(""), [6]bool{true, false, false, true, false, true}},
		{least, most, least, [6]bool{true, true, false, true, true, true}},
		{least, most, most, [6]bool{true, true, true, true, false, true}},
		{least, least, most, [6]bool{false, true, true, true, false, false}},
		{most, most, least, [6]bool{false, true, false, false, true, true}},
		{n(0), n(0), n(0), [6]bool{true, false, false, true, false, true}},
		// Nothing compares with null, nor does null with anything.
		{n(3), n(8), null, [6]bool{}},
		{s("b"), s("d"), null, [6]bool{}},
		{null, null, n(5), [6]bool{}},
		{null, null, s(""), [6]bool{}},
		{null, null, null, [6]bool{}},
		// What no segment tells counts by its order all the same.
		{null, n(8), n(5), [6]bool{}},
		{n(3), null, n(5), [6]bool{false, true, true, true, false, false}},
		{n(3), null, n(2), [6]bool{false, true, false, false, false, false}},
		{n(3), null, n(3), [6]bool{false, true, false, true, false, false}},
		{n(8), n(3), n(5), [6]bool{false, true, false, false, false, false}},
		{n(8), n(3), n(8), [6]bool{false, true, false, true, false, false}},
		{n(8), n(3), n(3), [6]bool{false, true, false, false, false, true}},
	} {
		kind := api.Int
		if c.v.Kind == api.Text {
			kind = api.Text
		}
		for i, want := range c.want {
			op := api.Eq + i
			h := single(c.low, c.high, 3)
			may(t, []int{kind}, h, of(op, col(0), con(c.v)), want)
			may(t, []int{kind}, h, of(turned(op), con(c.v), col(0)), want)
		}
	}
}

// turned: what says the same from the other side.
func turned(op int) int {
	return map[int]int{api.Eq: api.Eq, api.Ne: api.Ne, api.Lt: api.Gt, api.Le: api.Ge, api.Gt: api.Lt, api.Ge: api.Le}[op]
}

// Low and High of another kind than the column's are no reason to refuse.
func TestMayWithBoundsOfAnotherKind(t *testing.T) {
	may(t, []int{api.Int}, single(s("a"), s("b"), 0), of(api.Gt, col(0), num(5)), true)
	may(t, []int{api.Int}, single(s("a"), s("b"), 0), of(api.Le, col(0), num(5)), false)
	may(t, []int{api.Text}, single(n(1), n(2), 0), of(api.Ge, col(0), txt("")), false)
	may(t, []int{api.Text}, single(n(1), s("m"), 0), of(api.Eq, col(0), txt("")), true)
}

func TestMayOfNulls(t *testing.T) {
	is := of(api.IsNull, col(0))
	not := of(api.Not, is)
	for _, c := range []struct {
		h       api.Head
		is, not bool
	}{
		{single(n(3), n(8), 0), false, true},
		{single(n(3), n(8), 1), true, true},
		{single(n(0), n(0), 0), false, true},
		{single(n(3), n(8), math.MaxInt), true, true},
		{single(n(3), n(8), -1), false, true},
		{single(n(3), n(8), math.MinInt), false, true},
		{single(null, null, 10), true, false},
		{single(null, null, 0), false, false},
		{single(n(3), null, 0), false, true},
		{single(null, n(8), 2), true, false},
		{single(s(""), s(""), 0), false, true},
	} {
		for _, kind := range []int{api.Int, api.Text} {
			may(t, []int{kind}, c.h, is, c.is)
			may(t, []int{kind}, c.h, not, c.not)
		}
	}
}

func TestMayOfConstants(t *testing.T) {
	h := single(n(3), n(8), 0)
	for _, c := range []struct {
		v    api.Value
		want bool
	}{
		{n(1), true}, {n(-1), true}, {n(math.MinInt64), true}, {n(0), false}, {null, false}, {s(""), false}, {s("a"), false}, {s("1"), false},
		{api.Value{Kind: api.Int, N: 1, S: long(3000)}, true}, {api.Value{Kind: 7, N: 1}, false}, {api.Value{Kind: api.Null, N: 1}, false}, {api.Value{Kind: api.Text, N: 1}, false},
	} {
		may(t, []int{api.Int}, h, con(c.v), c.want)
		may(t, nil, api.Head{Rows: 1}, con(c.v), c.want)
	}
}

// Four columns: a number from 3 to 8, a text that is "b" or null, a number
// that is always null, and one that is always 0.
var (
	fourKinds = []int{api.Int, api.Text, api.Int, api.Int}
	fourTold  = api.Head{Rows: 10, Low: []api.Value{n(3), s("b"), null, n(0)}, High: []api.Value{n(8), s("b"), null, n(0)}, Nulls: []int{0, 4, 10, 0}}
)

func TestMayLooksAtTheRightColumn(t *testing.T) {
	for i, want := range []bool{false, true, true, false} {
		may(t, fourKinds, fourTold, of(api.IsNull, col(i)), want)
	}
	for i, want := range []bool{true, true, false, true} {
		may(t, fourKinds, fourTold, of(api.Not, of(api.IsNull, col(i))), want)
	}
	may(t, fourKinds, fourTold, of(api.Eq, col(0), num(0)), false)
	may(t, fourKinds, fourTold, of(api.Eq, col(3), num(0)), true)
	may(t, fourKinds, fourTold, of(api.Eq, col(1), txt("b")), true)
	may(t, fourKinds, fourTold, of(api.Ne, col(1), txt("b")), false)
	may(t, fourKinds, fourTold, of(api.Ge, col(2), num(0)), false)
}

// Of any other part it can't be said, though it be true of no row.
func TestMayOfOtherParts(t *testing.T) {
	never := of(api.Lt, col(0), num(3))
	for what, e := range map[string]api.Expr{
		"a column that is 0":                col(3),
		"a column that is null":             col(2),
		"a column of texts":                 col(1),
		"two constants":                     of(api.Eq, num(1), num(2)),
		"a constant and null":               of(api.Eq, num(1), con(null)),
		"two columns":                       of(api.Lt, col(0), col(3)),
		"two columns, one of them null":     of(api.Eq, col(0), col(2)),
		"a column and what is worked out":   of(api.Eq, col(0), of(api.Add, num(1), num(0))),
		"what is worked out, and a column":  of(api.Eq, of(api.Neg, num(1)), col(0)),
		"what is worked out, and one":       of(api.Lt, of(api.Neg, col(0)), num(-100)),
		"one, and what is worked out":       of(api.Gt, num(-100), of(api.Neg, col(0))),
		"an Or":                             of(api.Or, never, never),
		"an Or of zeros":                    of(api.Or, num(0), num(0)),
		"a Not":                             of(api.Not, of(api.Ge, col(0), num(3))),
		"a Not of a constant":               of(api.Not, num(1)),
		"a Not of a column":                 of(api.Not, col(0)),
		"not not null":                      of(api.Not, of(api.Not, of(api.IsNull, col(0)))),
		"a null that is worked out":         of(api.IsNull, of(api.Neg, col(0))),
		"a constant that is null":           of(api.IsNull, num(1)),
		"not null that is worked out":       of(api.Not, of(api.IsNull, of(api.Neg, col(2)))),
		"not null of a constant":            of(api.Not, of(api.IsNull, con(null))),
		"an If":                             of(api.If, num(1), never, never),
		"an If of zeros":                    of(api.If, col(0), num(0), num(0)),
		"a sum":                             of(api.Add, col(3), col(3)),
		"a text":                            of(api.Cat, txt("a"), col(1)),
		"a length":                          of(api.Len, col(1)),
		"0 that is worked out":              of(api.Mul, num(0), num(1)),
		"an And within what is no And":      of(api.Not, of(api.Not, of(api.And, never, num(0)))),
		"a null compared with what is null": of(api.Eq, of(api.Neg, con(null)), col(0)),
	} {
		if got, err := seg.May(fourKinds, fourTold, e); !got || err != api.OK {
			t.Errorf("%s: %v, error %d", what, got, err)
		}
	}
}

func TestMayOfParts(t *testing.T) {
	perhaps, never := of(api.Lt, col(0), num(4)), of(api.Lt, col(0), num(3))
	and := func(a, b api.Expr) api.Expr { return of(api.And, a, b) }
	may(t, fourKinds, fourTold, and(perhaps, perhaps), true)
	may(t, fourKinds, fourTold, and(never, perhaps), false)
	may(t, fourKinds, fourTold, and(perhaps, never), false)
	may(t, fourKinds, fourTold, and(and(perhaps, and(col(0), never)), perhaps), false)
	may(t, fourKinds, fourTold, and(and(perhaps, and(col(0), perhaps)), perhaps), true)
	may(t, fourKinds, fourTold, and(perhaps, num(0)), false)
	may(t, fourKinds, fourTold, and(perhaps, of(api.IsNull, col(3))), false)
	may(t, fourKinds, fourTold, and(and(num(1), of(api.Not, of(api.IsNull, col(2)))), perhaps), false)
	// Each alone may be; that they can't be both is not asked.
	may(t, fourKinds, fourTold, and(of(api.Eq, col(0), num(4)), of(api.Eq, col(0), num(5))), true)
	deep := never
	for range api.MaxDepth - 2 {
		deep = and(deep, perhaps)
	}
	may(t, fourKinds, fourTold, deep, false)
}

func TestMayOfNoRows(t *testing.T) {
	none := fourTold
	none.Rows = 0
	for _, e := range []api.Expr{num(1), col(0), of(api.Eq, col(0), num(5)), of(api.IsNull, col(2)), txt("a")} {
		may(t, fourKinds, none, e, false)
	}
	may(t, nil, api.Head{}, num(1), false)
	for _, rows := range []int{1, math.MaxInt} {
		none.Rows = rows
		may(t, fourKinds, none, num(1), true)
	}
}

func TestMayTakesValuesForWhatIsCleanOfThem(t *testing.T) {
	five := api.Value{Kind: api.Int, N: 5, S: "left over"}
	other := api.Value{Kind: 9, N: 5}
	may(t, []int{api.Int}, single(five, five, 0), of(api.Ne, col(0), con(api.Value{Kind: api.Int, N: 5, S: "other"})), false)
	may(t, []int{api.Int}, single(other, other, 0), of(api.Eq, col(0), num(5)), false)
	may(t, []int{api.Int}, single(five, other, 0), of(api.Eq, col(0), num(5)), false)
	may(t, []int{api.Int}, single(other, five, 0), of(api.Not, of(api.IsNull, col(0))), false)
	may(t, []int{api.Int}, single(five, five, 0), of(api.Le, col(0), con(other)), false)
	may(t, []int{api.Text}, single(api.Value{Kind: api.Text, N: 3, S: "a"}, s("a"), 0), of(api.Ne, con(api.Value{Kind: api.Text, N: 4, S: "a"}), col(0)), false)
	// What an operator does not need makes no difference.
	e := api.Expr{Op: api.Lt, N: 7, V: n(7), Args: []api.Expr{{Op: api.Col, N: 0, V: n(9)}, {Op: api.Const, N: 4, V: n(3)}}}
	may(t, fourKinds, fourTold, e, false)
}

func TestMayRefuses(t *testing.T) {
	loop := []api.Expr{{Op: api.Neg}}
	loop[0].Args = loop
	both := []api.Expr{{Op: api.And}, {Op: api.And}}
	both[0].Args, both[1].Args = both, both
	deep := num(1)
	for range 50000 {
		deep = of(api.Neg, deep)
	}
	told := func(change func(h *api.Head)) api.Head {
		h := api.Head{Rows: 10, Low: slices.Clone(fourTold.Low), High: slices.Clone(fourTold.High), Nulls: slices.Clone(fourTold.Nulls)}
		change(&h)
		return h
	}
	clash := of(api.Add, col(1), num(1))
	fewer := told(func(h *api.Head) { h.Rows = -1 })
	none := told(func(h *api.Head) { h.Rows = 0 })
	for what, c := range map[string]struct {
		kinds []int
		h     api.Head
		e     api.Expr
		want  api.Errno
	}{
		"-1 rows":                       {fourKinds, fewer, num(1), api.ErrArg},
		"-1 rows, and a clash":          {fourKinds, fewer, clash, api.ErrArg},
		"the fewest rows":               {fourKinds, told(func(h *api.Head) { h.Rows = math.MinInt }), num(1), api.ErrArg},
		"Low is short":                  {fourKinds, told(func(h *api.Head) { h.Low = h.Low[:3] }), num(1), api.ErrArg},
		"Low is long":                   {fourKinds, told(func(h *api.Head) { h.Low = append(h.Low, null) }), num(1), api.ErrArg},
		"High is short":                 {fourKinds, told(func(h *api.Head) { h.High = h.High[:3] }), num(1), api.ErrArg},
		"High is long":                  {fourKinds, told(func(h *api.Head) { h.High = append(h.High, null) }), num(1), api.ErrArg},
		"Nulls is short":                {fourKinds, told(func(h *api.Head) { h.Nulls = nil }), num(1), api.ErrArg},
		"Nulls is long":                 {fourKinds, told(func(h *api.Head) { h.Nulls = append(h.Nulls, 0) }), num(1), api.ErrArg},
		"Nulls is long, and a clash":    {fourKinds, told(func(h *api.Head) { h.Nulls = append(h.Nulls, 0) }), clash, api.ErrArg},
		"Nulls is long, and no rows":    {fourKinds, told(func(h *api.Head) { h.Rows, h.Nulls = 0, append(h.Nulls, 0) }), num(1), api.ErrArg},
		"a kind is missing":             {fourKinds[:3], fourTold, num(1), api.ErrArg},
		"no kinds":                      {nil, fourTold, num(1), api.ErrArg},
		"nothing is told":               {fourKinds, api.Head{Rows: 10}, num(1), api.ErrArg},
		"a kind that is none":           {[]int{api.Int, api.Text, api.Int, api.Null}, fourTold, num(1), api.ErrArg},
		"no rows, a kind that is none":  {[]int{api.Int, api.Text, api.Int, 3}, none, num(1), api.ErrArg},
		"no such column":                {fourKinds, fourTold, col(4), api.ErrArg},
		"no such column in a part":      {fourKinds, fourTold, of(api.And, num(0), of(api.Eq, num(1), col(4))), api.ErrArg},
		"no such column that is null":   {fourKinds, fourTold, of(api.IsNull, col(4)), api.ErrArg},
		"no such column, and a clash":   {fourKinds, fourTold, of(api.And, clash, col(4)), api.ErrArg},
		"column -1":                     {fourKinds, fourTold, of(api.Eq, col(-1), num(1)), api.ErrArg},
		"not built":                     {fourKinds, fourTold, of(api.Eq, col(0)), api.ErrArg},
		"nothing":                       {fourKinds, fourTold, api.Expr{}, api.ErrArg},
		"no such operator":              {fourKinds, fourTold, of(22, num(1), num(2)), api.ErrArg},
		"a long text":                   {fourKinds, fourTold, of(api.Eq, col(1), txt(long(1001))), api.ErrArg},
		"a loop":                        {fourKinds, fourTold, loop[0], api.ErrArg},
		"a loop of two":                 {fourKinds, fourTold, both[0], api.ErrArg},
		"50001 high":                    {fourKinds, fourTold, deep, api.ErrArg},
		"not built, and no rows":        {fourKinds, none, of(api.Eq, col(0)), api.ErrArg},
		"a clash":                       {fourKinds, fourTold, clash, api.ErrKind},
		"a clash, and no rows":          {fourKinds, none, clash, api.ErrKind},
		"a clash behind a 0":            {fourKinds, fourTold, of(api.And, num(0), clash), api.ErrKind},
		"a number and a text":           {fourKinds, fourTold, of(api.Eq, col(0), txt("a")), api.ErrKind},
		"a text and a number":           {fourKinds, fourTold, of(api.Gt, num(1), col(1)), api.ErrKind},
		"an And of texts":               {fourKinds, fourTold, of(api.And, num(1), col(1)), api.ErrKind},
		"a text of the And is constant": {fourKinds, fourTold, of(api.And, txt("a"), num(1)), api.ErrKind},
	} {
		if got, err := seg.May(c.kinds, c.h, c.e); got || err != c.want {
			t.Errorf("%s: %v, error %d, not only error %d", what, got, err, c.want)
		}
	}
}

// condition: any that fits the kinds, and of which it can often be said.
func condition(r *rand.Rand, a sample, height int) api.Expr {
	if height > 0 && r.Intn(3) > 0 {
		op := []int{api.And, api.And, api.And, api.Or, api.Not}[r.Intn(5)]
		if op == api.Not {
			return of(op, condition(r, a, height-1))
		}
		return of(op, condition(r, a, height-1), condition(r, a, height-1))
	}
	i := r.Intn(len(a.kinds))
	v := anyOf(r, a.kinds[i], 20)
	if len(a.rows) > 0 && r.Intn(2) == 0 {
		v = a.rows[r.Intn(len(a.rows))][i]
	}
	switch r.Intn(8) {
	case 0:
		return of(api.IsNull, col(i))
	case 1:
		return of(api.Not, of(api.IsNull, col(i)))
	case 2:
		return num(int64(r.Intn(3) - 1))
	case 3, 4:
		return of(api.Eq+r.Intn(6), con(v), col(i))
	}
	return of(api.Eq+r.Intn(6), col(i), con(v))
}

// What is said of a segment ahead of reading it holds of each of its rows.
func TestMayIsNeverWrong(t *testing.T) {
	r := rand.New(rand.NewSource(31))
	seen := map[bool]int{}
	for range 1500 {
		a := random(r, 1+r.Intn(4), r.Intn(6))
		h, e := seg.Head(mustBuild(t, a))
		if e != api.OK {
			t.Fatalf("Head: error %d", e)
		}
		for range 10 {
			c := condition(r, a, r.Intn(3))
			got, err := seg.May(a.kinds, h, c)
			there := slices.ContainsFunc(a.rows, func(row []api.Value) bool { return cell.True(expr.Eval(c, row)) })
			if err != api.OK || there && !got {
				t.Fatalf("May(%v, %v, %v) = %v, error %d, of %v", a.kinds, h, c, got, err, a.rows)
			}
			seen[got]++
		}
	}
	if seen[true] < 2000 || seen[false] < 2000 {
		t.Errorf("answers came so often: %v", seen)
	}
}
