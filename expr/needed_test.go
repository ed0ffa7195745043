package expr_test

import (
	"math/rand"
	"testing"

	"tallyhouse/api"
	"tallyhouse/cell"
	"tallyhouse/expr"
)

// loaded: e with something in each N and V that its operator does not need.
func loaded(r *rand.Rand, e api.Expr) api.Expr {
	junk := []api.Value{n(1 + r.Int63()), s("left over"), s(long(2000)), {Kind: 9, N: 3, S: "x"}}
	out := api.Expr{Op: e.Op, N: 1 + r.Intn(9), V: junk[r.Intn(len(junk))]}
	if r.Intn(2) == 0 {
		out.N = -out.N
	}
	switch e.Op {
	case api.Col:
		out.N = e.N
	case api.Const:
		out.V = soiled(e.V)
	}
	for _, part := range e.Args {
		out.Args = append(out.Args, loaded(r, part))
	}
	return out
}

// soiled: a value that counts for v, and is not clean.
func soiled(v api.Value) api.Value {
	switch v.Kind {
	case api.Int:
		v.S = "left over"
	case api.Text:
		v.N = 8
	default:
		v = api.Value{Kind: 7, N: 8, S: "left over"}
	}
	return v
}

// hasNeedless: is there something in e that an operator does not need, or a
// constant that is not clean?
func hasNeedless(e api.Expr) bool {
	if e.Op != api.Col && e.N != 0 || e.Op != api.Const && e.V != null || e.V != cell.Clean(e.V) {
		return true
	}
	for _, part := range e.Args {
		if hasNeedless(part) {
			return true
		}
	}
	return false
}

// answersNoMore: each call makes the same of an expression with something
// needless in it as of that without, and hands on nothing of it.
func answersNoMore(t *testing.T, what string, r *rand.Rand, e api.Expr) {
	t.Helper()
	full := loaded(r, e)
	for call, makes := range makers() {
		want, got := makes(e), makes(full)
		if !sameAll(got, want) {
			t.Fatalf("%s of %s: %v, not %v", call, what, got, want)
		}
		for _, answer := range got {
			if hasNeedless(answer) {
				t.Fatalf("%s of %s: %v has what it does not need", call, what, answer)
			}
		}
	}
}

func TestAnswersHaveNothingTheyDoNotNeed(t *testing.T) {
	count := 0
	each(t, 10, func(r *rand.Rand, e api.Expr) {
		if count++; count%5 == 0 {
			answersNoMore(t, "an expression", r, e)
		}
	})
}

func TestAnswersOfWhatIsNotBuiltHaveNothingTheyDoNotNeed(t *testing.T) {
	r := rand.New(rand.NewSource(11))
	for what, e := range notBuilt() {
		answersNoMore(t, what, r, e)
	}
}

func TestEachOperatorKeepsWhatItNeeds(t *testing.T) {
	for op, count := range parts {
		full := api.Expr{Op: op, N: 6, V: api.Value{Kind: api.Text, N: 9, S: "v"}}
		want := api.Expr{Op: op}
		switch op {
		case api.Col:
			want.N = 6
		case api.Const:
			want.V = s("v")
		}
		for i := range count {
			full.Args = append(full.Args, api.Expr{Op: api.Col, N: i, V: n(5)})
			want.Args = append(want.Args, col(i))
		}
		moved, err := expr.Moved(full, []int{0, 1, 2, 3, 4, 5, 6})
		if err != api.OK || !same(moved, want) {
			t.Errorf("Moved of operator %d: %v, error %d", op, moved, err)
		}
		put, err := expr.Put(col(0), []api.Expr{full})
		if err != api.OK || !same(put, want) {
			t.Errorf("Put of operator %d: %v, error %d", op, put, err)
		}
		if folded := expr.Fold(full); !same(folded, want) {
			t.Errorf("Fold of operator %d: %v", op, folded)
		}
		if all := expr.All([]api.Expr{full, full}); !same(all, of(api.And, want, want)) {
			t.Errorf("All of operator %d: %v", op, all)
		}
		if list := expr.Parts(of(api.Not, full)); !sameAll(list, []api.Expr{of(api.Not, want)}) {
			t.Errorf("Parts of operator %d: %v", op, list)
		}
	}
}

// What Fold takes out of an expression has nothing needless in it either.
func TestFoldTakesOutNoMoreThanIsNeeded(t *testing.T) {
	x := api.Expr{Op: api.Col, N: 3, V: n(5)}
	one := api.Expr{Op: api.Const, N: 4, V: api.Value{Kind: api.Int, N: 1, S: "left over"}}
	zero := api.Expr{Op: api.Const, N: 4, V: api.Value{Kind: api.Int, S: "left over"}}
	for _, c := range []struct {
		e, want api.Expr
	}{
		{of(api.If, one, x, zero), col(3)},
		{of(api.If, zero, x, of(api.Neg, x)), of(api.Neg, col(3))},
		{of(api.If, x, one, zero), of(api.If, col(3), num(1), num(0))},
		{of(api.And, x, zero), num(0)},
		{of(api.Or, one, x), num(1)},
		{of(api.Add, one, one), num(2)},
	} {
		if got := expr.Fold(c.e); !same(got, c.want) {
			t.Errorf("Fold(%v) = %v, not %v", c.e, got, c.want)
		}
	}
}
