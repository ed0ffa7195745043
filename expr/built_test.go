package expr_test

import (
	"slices"
	"testing"

	"tallyhouse/api"
	"tallyhouse/expr"
)

func TestSize(t *testing.T) {
	for _, c := range []struct {
		e             api.Expr
		nodes, height int
	}{
		{num(1), 1, 1},
		{con(null), 1, 1},
		{col(0), 1, 1},
		{col(1 << 40), 1, 1},
		{txt(long(api.MaxText)), 1, 1},
		{of(api.Neg, num(1)), 2, 2},
		{of(api.If, num(1), of(api.Add, num(1), num(2)), of(api.Not, of(api.Len, txt("a")))), 8, 4},
		{of(api.Add, of(api.Neg, of(api.Neg, num(1))), num(1)), 5, 4},
		{high(39), 39, 39},
		{high(40), 40, 40},
		{of(api.Add, num(1), high(39)), 41, 40},
		{wide(399), 399, 9},
		{wide(400), 400, 9},
	} {
		if nodes, height := expr.Size(c.e); nodes != c.nodes || height != c.height {
			t.Errorf("Size(%v) = %d, %d, not %d, %d", c.e, nodes, height, c.nodes, c.height)
		}
	}
}

func TestEachOperatorIsBuiltWithItsParts(t *testing.T) {
	for op, count := range parts {
		e := of(op)
		for range count {
			e.Args = append(e.Args, num(1))
		}
		if nodes, _ := expr.Size(e); nodes != 1+count {
			t.Errorf("operator %d with %d parts has the size %d", op, count, nodes)
		}
	}
}

func TestFortyHighAndFourHundredNodes(t *testing.T) {
	// A comb: 40 high, with the rest of the 400 nodes beside its spine.
	comb := num(1)
	for range 39 {
		comb = of(api.Add, comb, num(1))
	}
	if nodes, height := expr.Size(comb); nodes != 79 || height != 40 {
		t.Fatalf("the comb has %d nodes and is %d high", nodes, height)
	}
	comb.Args[1] = wide(400 - 78)
	if nodes, height := expr.Size(comb); nodes != 400 || height != 40 {
		t.Errorf("%d nodes, %d high", nodes, height)
	}
	comb.Args[1] = wide(401 - 78)
	if nodes, height := expr.Size(comb); nodes != 401 || height != 41 {
		t.Errorf("one node more: %d nodes, %d high", nodes, height)
	}
}

// answersAsNotBuilt: what each call answers of an expression that is not
// built, but those that answer it as it is.
func answersAsNotBuilt(t *testing.T, what string, e api.Expr) {
	t.Helper()
	if nodes, height := expr.Size(e); nodes != 401 || height != 41 {
		t.Errorf("%s: its size is %d, %d", what, nodes, height)
	}
	if kind, err := expr.Kind(e, []int{api.Int}); kind != 0 || err != api.ErrArg {
		t.Errorf("%s: its kind is %d, error %d", what, kind, err)
	}
	if v := expr.Eval(e, []api.Value{n(1)}); v != null {
		t.Errorf("%s: its value is %v", what, v)
	}
	v, err := expr.Over(e, []api.Vec{{Kind: api.Int, Null: []bool{false}, N: []int64{1}}}, 1)
	if err != api.ErrArg || v.Kind != 0 || v.Null != nil || v.N != nil || v.S != nil {
		t.Errorf("%s: Over gives %v, error %d", what, v, err)
	}
	if c := expr.Columns(e); len(c) != 0 {
		t.Errorf("%s: its columns are %v", what, c)
	}
	moved, err := expr.Moved(e, []int{0})
	refused(t, what+", moved", moved, err, api.ErrArg)
	put, err := expr.Put(e, []api.Expr{num(1)})
	refused(t, what+", put into", put, err, api.ErrArg)
	put, err = expr.Put(col(0), []api.Expr{num(1), e})
	refused(t, what+", put", put, err, api.ErrArg)
	if expr.Strict(e, []int{0, -1}) {
		t.Errorf("%s: it is strict", what)
	}
}

func TestNotBuilt(t *testing.T) {
	for what, e := range notBuilt() {
		answersAsNotBuilt(t, what, e)
		want := twin(e)
		if f := expr.Fold(e); !same(f, want) {
			t.Errorf("%s: folded it is another one", what)
		}
		if p := expr.Parts(e); len(p) != 1 || !same(p[0], want) {
			t.Errorf("%s: it has %d parts, or is another one", what, len(p))
		}
		if a := expr.All([]api.Expr{e}); !same(a, want) {
			t.Errorf("%s: all of it are another one", what)
		}
	}
}

func TestEndlessExpressionsAreAnswered(t *testing.T) {
	for what, e := range endless() {
		answersAsNotBuilt(t, what, e)
		for _, answer := range []api.Expr{expr.Fold(e), expr.Parts(e)[0], expr.All([]api.Expr{e}), expr.All([]api.Expr{num(1), e}).Args[1]} {
			if answer.Op != e.Op || len(answer.Args) != len(e.Args) {
				t.Errorf("%s: the answer begins with %d of %d parts", what, answer.Op, len(answer.Args))
			}
		}
	}
}

func TestWhatAnOperatorDoesNotNeedMakesNoDifference(t *testing.T) {
	needless := api.Expr{Op: api.If, N: -7, V: s(long(2000)), Args: []api.Expr{
		{Op: api.Const, N: -1, V: n(1)},
		{Op: api.Col, N: 1, V: api.Value{Kind: 9, N: 3, S: long(3000)}},
		{Op: api.Add, N: -9, V: s(long(1001)), Args: []api.Expr{num(1), {Op: api.Const, N: 99, V: n(2)}}},
	}}
	plain := of(api.If, num(1), col(1), of(api.Add, num(1), num(2)))
	nodes, height := expr.Size(needless)
	if nodes != 6 || height != 3 {
		t.Errorf("its size is %d, %d", nodes, height)
	}
	if kind, err := expr.Kind(needless, []int{api.Text, api.Int}); kind != api.Int || err != api.OK {
		t.Errorf("its kind is %d, error %d", kind, err)
	}
	if v := expr.Eval(needless, []api.Value{n(3), n(4)}); v != n(4) {
		t.Errorf("its value is %v", v)
	}
	if c := expr.Columns(needless); !slices.Equal(c, []int{1}) {
		t.Errorf("its columns are %v", c)
	}
	if expr.Strict(needless, []int{1}) || !expr.Strict(api.Expr{Op: api.Const, N: 3, V: n(0)}, nil) {
		t.Error("Strict")
	}
	for what, e := range map[string]api.Expr{"Fold": expr.Fold(needless), "Fold of the plain one": expr.Fold(plain)} {
		if e.Op != api.Col || e.N != 1 {
			t.Errorf("%s: %v", what, e)
		}
	}
	moved, err := expr.Moved(needless, []int{0, 5})
	if err != api.OK || moved.Args[1].N != 5 || moved.Args[0].Op != api.Const || !slices.Equal(expr.Columns(moved), []int{5}) {
		t.Errorf("moved: %v, error %d", moved, err)
	}
}

func TestConstantsCountForWhatIsCleanOfThem(t *testing.T) {
	for _, c := range []struct {
		v, want api.Value
	}{
		{api.Value{Kind: api.Int, N: 5, S: long(2000)}, n(5)},
		{api.Value{Kind: 3, N: 5, S: long(2000)}, null},
		{api.Value{Kind: -1, N: 5, S: "a"}, null},
		{api.Value{N: 5}, null},
		{api.Value{Kind: api.Text, N: 5, S: "a"}, s("a")},
	} {
		if nodes, height := expr.Size(con(c.v)); nodes != 1 || height != 1 {
			t.Errorf("%v has the size %d, %d", c.v, nodes, height)
		}
		if kind, err := expr.Kind(con(c.v), nil); kind != c.want.Kind || err != api.OK {
			t.Errorf("%v has the kind %d, error %d", c.v, kind, err)
		}
		if v := expr.Eval(con(c.v), nil); v != c.want {
			t.Errorf("%v has the value %v", c.v, v)
		}
		if expr.Strict(con(c.v), nil) != (c.want != n(5)) || expr.Strict(of(api.Neg, con(c.v)), nil) != (c.want == null) {
			t.Errorf("%v: Strict", c.v)
		}
		both := of(api.Eq, con(c.v), col(0))
		moved, _ := expr.Moved(both, []int{1})
		put, _ := expr.Put(both, []api.Expr{con(c.v)})
		for what, got := range map[string]api.Expr{
			"Fold": expr.Fold(both).Args[0], "Moved": moved.Args[0], "Put into": put.Args[0], "Put": put.Args[1],
			"Parts": expr.Parts(con(c.v))[0], "All": expr.All([]api.Expr{con(c.v)}),
			"Parts of what is not built": expr.Parts(of(99, con(c.v)))[0].Args[0],
		} {
			if got.V != c.want {
				t.Errorf("%s answers the constant %v, not %v", what, got.V, c.want)
			}
		}
	}
}
