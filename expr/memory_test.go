package expr_test

import (
	"math/rand"
	"slices"
	"testing"

	"tallyhouse/api"
	"tallyhouse/expr"
)

// spoil all that e holds, spare room included.
func spoil(list []api.Expr) {
	list = list[:cap(list)]
	for i := range list {
		spoil(list[i].Args)
		list[i] = api.Expr{Op: 98, N: -98, V: s("spoilt")}
	}
}

// roomy: as e, with spare room behind each list that a careless append would
// fill.
func roomy(e api.Expr) api.Expr {
	args := make([]api.Expr, 0, len(e.Args)+2)
	for _, part := range e.Args {
		args = append(args, roomy(part))
	}
	return api.Expr{Op: e.Op, N: e.N, V: e.V, Args: args}
}

// whole: e with its spare room shown.
func whole(e api.Expr) api.Expr {
	w := api.Expr{Op: e.Op, N: e.N, V: e.V}
	for _, part := range e.Args[:cap(e.Args)] {
		w.Args = append(w.Args, whole(part))
	}
	return w
}

// makers: each call that answers expressions of an expression.
func makers() map[string]func(e api.Expr) []api.Expr {
	return map[string]func(e api.Expr) []api.Expr{
		"Moved": func(e api.Expr) []api.Expr {
			moved, _ := expr.Moved(e, []int{3, 2, 1, 0, 5, 4})
			return []api.Expr{moved}
		},
		"Put into": func(e api.Expr) []api.Expr {
			put, _ := expr.Put(e, []api.Expr{col(5), num(1), col(2), txt("a"), col(1), col(0)})
			return []api.Expr{put}
		},
		"Put": func(e api.Expr) []api.Expr {
			put, _ := expr.Put(of(api.Add, col(0), of(api.Mul, col(1), col(0))), []api.Expr{e, e})
			return []api.Expr{put}
		},
		"Parts":      expr.Parts,
		"All of one": func(e api.Expr) []api.Expr { return []api.Expr{expr.All([]api.Expr{e})} },
		"All":        func(e api.Expr) []api.Expr { return []api.Expr{expr.All([]api.Expr{e, e, e})} },
		"Fold":       func(e api.Expr) []api.Expr { return []api.Expr{expr.Fold(e)} },
	}
}

// holdsItsOwn: no two lists of an answer share memory, nor share it with e.
func holdsItsOwn(t *testing.T, what string, e api.Expr, makes func(e api.Expr) []api.Expr) {
	t.Helper()
	e = roomy(e)
	before := whole(e)
	answer := makes(e)
	if !same(whole(e), before) {
		t.Fatalf("%s changed %v", what, before)
	}
	want := twins(answer)
	seen := map[*api.Expr]int{}
	mark(seen, e.Args)
	mark(seen, answer)
	for memory, times := range seen {
		if times > 1 {
			t.Fatalf("%s: %v stands twice in memory", what, *memory)
		}
	}
	spoil(e.Args)
	if !sameAll(answer, want) {
		t.Fatalf("%s of %v: the answer changed with it", what, before)
	}
	spoil(answer)
}

// mark each place of memory, spare room included, with how often it is held.
func mark(seen map[*api.Expr]int, list []api.Expr) {
	list = list[:cap(list)]
	for i := range list {
		seen[&list[i]]++
		mark(seen, list[i].Args)
	}
}

func TestExpressionsAreNewMemory(t *testing.T) {
	for what, makes := range makers() {
		for kind, e := range notBuilt() {
			holdsItsOwn(t, what+" of "+kind, e, makes)
		}
		holdsItsOwn(t, what, of(api.And, of(api.And, col(1), num(0)), of(api.If, num(1), col(2), col(3))), makes)
	}
	list := makers()
	count := 0
	each(t, 9, func(r *rand.Rand, e api.Expr) {
		if count++; count%10 == 0 {
			for what, makes := range list {
				holdsItsOwn(t, what, e, makes)
			}
		}
	})
}

func TestListsAreNotKept(t *testing.T) {
	e := of(api.Add, col(0), col(1))
	to := []int{4, 2}
	moved, _ := expr.Moved(e, to)
	by := []api.Expr{of(api.Neg, col(3)), of(api.Not, col(4))}
	put, _ := expr.Put(e, by)
	list := []api.Expr{col(0), col(1), col(2)}
	all := expr.All(list)
	if !slices.Equal(to, []int{4, 2}) || !sameAll(by, []api.Expr{of(api.Neg, col(3)), of(api.Not, col(4))}) || !sameAll(list, []api.Expr{col(0), col(1), col(2)}) {
		t.Error("what was handed in has changed")
	}
	to[0], to[1] = 0, 0
	spoil(by)
	spoil(list)
	if !same(moved, of(api.Add, col(4), col(2))) || !same(put, of(api.Add, of(api.Neg, col(3)), of(api.Not, col(4)))) || !same(all, of(api.And, of(api.And, col(0), col(1)), col(2))) {
		t.Error("an answer changed with what was handed in")
	}
}

func TestColumnsAreNewMemory(t *testing.T) {
	e := of(api.Add, col(0), of(api.Mul, col(3), col(0)))
	first := expr.Columns(e)
	for i := range first[:cap(first)] {
		first[:cap(first)][i] = -1
	}
	if again := expr.Columns(e); !slices.Equal(again, []int{0, 3}) {
		t.Errorf("the second time the columns are %v", again)
	}
}

func TestRowsAndColumnsStayAsTheyAre(t *testing.T) {
	row := []api.Value{{Kind: api.Int, N: 4, S: "x"}, {Kind: 9, N: 1}}
	before := slices.Clone(row)
	kinds, columns := []int{api.Int}, []int{3, 1, 2, 1}
	vecs := []api.Vec{{Kind: api.Text, Null: []bool{false, true}, S: []string{"a", ""}}}
	expr.Eval(of(api.Add, col(0), col(1)), row)
	expr.Kind(col(0), kinds)
	expr.Strict(col(1), columns)
	v, _ := expr.Over(col(0), vecs, 2)
	if !slices.Equal(row, before) || kinds[0] != api.Int || !slices.Equal(columns, []int{3, 1, 2, 1}) {
		t.Error("what was handed in has changed")
	}
	v.S[0], v.Null[0] = "spoilt", true
	if vecs[0].S[0] != "a" || vecs[0].Null[0] {
		t.Error("a column changed with the vec that Over answers")
	}
	v, _ = expr.Over(col(0), vecs, 2)
	vecs[0].S[0], vecs[0].Null[1] = "spoilt", false
	if v.S[0] != "a" || !v.Null[1] {
		t.Error("the vec changed with the column")
	}
}
