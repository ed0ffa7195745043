package plan

import (
	"slices"
	"strings"

	"tallyhouse/api"
	"tallyhouse/expr"
	"tallyhouse/token"
)

// The words of a text, in the order of the numbers that they stand for; the
// first one's is 1, but of expressions that of Neg.
const (
	planWords   = "scan filter project join leftjoin group distinct union top window minus empty"
	exprWords   = "neg not isnull len add sub mul div mod eq ne lt le gt ge cat and or if"
	aggWords    = "countall count sum least most counteach"
	windowWords = "number rank dense sumover countover ahead"
	kindWords   = "int text"

	nullWord   = "null"
	descWord   = "desc"
	columnMark = "#"
)

// word of the number n, from 1 on.
func word(words string, n int) string { return strings.Fields(words)[n-1] }

// misread is thrown where a tree is not what must stand there.
type misread struct{}

// ensure that the tree is as it is written.
func ensure(so bool) {
	if !so {
		panic(misread{})
	}
}

// read a tree so; false, if it is not what must stand there.
func read[T any](tree token.Tree, in func(token.Tree) T) (what T, ok bool) {
	defer func() {
		// Where something was thrown both answers are still zero.
		thrown := recover()
		if _, own := thrown.(misread); thrown != nil && !own {
			panic(thrown)
		}
	}()
	return in(tree), true
}

// PlanIn a tree; false, if it is none. It may be one that is not built.
func PlanIn(tree token.Tree) (api.Plan, bool) { return read(tree, planIn) }

// NameIn a tree: that of a table or a column; false, if it is none.
func NameIn(tree token.Tree) (string, bool) { return read(tree, nameIn) }

// KindIn a tree: that of a column; false, if it is none.
func KindIn(tree token.Tree) (int, bool) { return read(tree, kindIn) }

// ValueIn a tree: a number, a text or null; false, if it is none.
func ValueIn(tree token.Tree) (api.Value, bool) { return read(tree, valueIn) }

// planIn a tree.
func planIn(tree token.Tree) api.Plan {
	op, parts := headed(tree, planWords)
	ensure(op == api.Union || len(parts) == partsOf(op))
	switch op {
	case api.Scan:
		return api.Plan{Op: op, Table: nameIn(parts[0])}
	case api.Filter, api.Join, api.LeftJoin:
		return api.Plan{Op: op, Exprs: token.Each(parts[:1], exprIn), Args: token.Each(parts[1:], planIn)}
	case api.Project:
		return api.Plan{Op: op, Exprs: token.Each(list(parts[0]), exprIn), Args: token.Each(parts[1:], planIn)}
	case api.Group:
		return api.Plan{Op: op, Cols: token.Each(list(parts[0]), numberIn), Aggs: token.Each(list(parts[1]), aggIn), Args: token.Each(parts[2:], planIn)}
	case api.Top:
		return api.Plan{Op: op, Keys: token.Each(list(parts[0]), keyIn), N: numberIn(parts[1]), Off: numberIn(parts[2]), Args: token.Each(parts[3:], planIn)}
	case api.Window:
		p := api.Plan{Op: op, Fn: place(windowWords, parts[0]), Col: numberIn(parts[1]), N: numberIn(parts[2])}
		p.Cols, p.Keys, p.Args = token.Each(list(parts[3]), numberIn), token.Each(list(parts[4]), keyIn), token.Each(parts[5:], planIn)
		return p
	case api.Empty:
		return api.Plan{Op: op, Cols: token.Each(list(parts[0]), kindIn)}
	}
	return api.Plan{Op: op, Args: token.Each(parts, planIn)}
}

// partsOf a plan's list, behind its word; a Union may have any number.
func partsOf(op int) int {
	switch op {
	case api.Filter, api.Project, api.Minus:
		return 2
	case api.Join, api.LeftJoin, api.Group:
		return 3
	case api.Top:
		return 4
	case api.Window:
		return 6
	}
	return 1
}

func exprIn(tree token.Tree) api.Expr {
	switch tree.Kind {
	case token.Text:
		return api.Expr{Op: api.Const, V: api.Value{Kind: api.Text, S: tree.S}}
	case token.Word:
		return leafIn(tree)
	}
	n, parts := headed(tree, exprWords)
	op := api.Neg + n - 1
	ensure(len(parts) == expr.Arity(op))
	return api.Expr{Op: op, Args: token.Each(parts, exprIn)}
}

// valueIn a tree: that of an expression that is a constant.
func valueIn(tree token.Tree) api.Value {
	e := exprIn(tree)
	ensure(e.Op == api.Const)
	return e.V
}

// leafIn a word: a column, null or a number.
func leafIn(tree token.Tree) api.Expr {
	if tree.S == nullWord {
		return api.Expr{Op: api.Const}
	}
	if n, is := strings.CutPrefix(tree.S, columnMark); is {
		return api.Expr{Op: api.Col, N: int(number(n))}
	}
	return api.Expr{Op: api.Const, V: api.Value{Kind: api.Int, N: number(tree.S)}}
}

func aggIn(tree token.Tree) api.Agg {
	fn, parts := headed(tree, aggWords)
	ensure(len(parts) == 1)
	return api.Agg{Fn: fn, Col: numberIn(parts[0])}
}

func keyIn(tree token.Tree) api.Key {
	if tree.Kind != token.List {
		return api.Key{Col: numberIn(tree)}
	}
	_, parts := headed(tree, descWord)
	ensure(len(parts) == 1)
	return api.Key{Col: numberIn(parts[0]), Desc: true}
}

func kindIn(tree token.Tree) int { return place(kindWords, tree) }

func nameIn(tree token.Tree) string {
	ensure(tree.Kind == token.Word && token.IsName(tree.S))
	return tree.S
}

func numberIn(tree token.Tree) int {
	ensure(tree.Kind == token.Word)
	return int(number(tree.S))
}

func number(word string) int64 {
	n, ok := token.Number(word)
	ensure(ok)
	return n
}

// list: the parts of a tree that is one.
func list(tree token.Tree) []token.Tree {
	ensure(tree.Kind == token.List)
	return tree.Parts
}

// headed: which of these words a list begins with, from 1 on, and what stands
// behind it.
func headed(tree token.Tree, words string) (int, []token.Tree) {
	parts := list(tree)
	ensure(len(parts) > 0)
	return place(words, parts[0]), parts[1:]
}

// place of a word among these, from 1 on.
func place(words string, tree token.Tree) int {
	at := slices.Index(strings.Fields(words), tree.S)
	ensure(tree.Kind == token.Word && at >= 0)
	return at + 1
}
