package expr

import (
	"slices"

	"tallyhouse/api"
	"tallyhouse/cell"
)

// What is larger than this cannot be handed out as new memory: it is nested
// in itself, or so often stands for the same memory that it would take more
// bytes than an answer may have.
const (
	mostNodes  = 1 << 25
	mostNested = 1 << 17
)

// Arity: how many parts an operator has; -1, if there is no such operator.
func Arity(op int) int {
	switch {
	case op == api.Col, op == api.Const:
		return 0
	case op >= api.Neg && op <= api.Len:
		return 1
	case op >= api.Add && op <= api.Or:
		return 2
	case op == api.If:
		return 3
	}
	return -1
}

// isSound: is this node, without regard to its parts, one that may be?
func isSound(e api.Expr) bool {
	if len(e.Args) != Arity(e.Op) {
		return false
	}
	switch e.Op {
	case api.Col:
		return e.N >= 0
	case api.Const:
		return len(cell.Clean(e.V).S) <= api.MaxText
	}
	return true
}

// measured: how many nodes e has, and how high it is; false, if that is more
// than so many nodes, or so high, or a node is not fine. It looks at no more
// nodes than that, since what is nested in itself has no end.
func measured(e api.Expr, nodes, height int, fine func(api.Expr) bool) (int, int, bool) {
	if nodes < 1 || height < 1 || !fine(e) {
		return 0, 0, false
	}
	count, high := 1, 0
	for _, part := range e.Args {
		n, h, ok := measured(part, nodes-count, height-1, fine)
		if !ok {
			return 0, 0, false
		}
		count += n
		high = max(high, h)
	}
	return count, high + 1, true
}

func isBuilt(e api.Expr) bool {
	_, _, built := measured(e, api.MaxNodes, api.MaxDepth, isSound)
	return built
}

func isNotBuilt(e api.Expr) bool { return !isBuilt(e) }

func isBelowZero(n int) bool { return n < 0 }

// made anew from the leaves on: each node, with its parts made, is what by
// makes of it.
func made(e api.Expr, by func(api.Expr) api.Expr) api.Expr {
	parts := slices.Clone(e.Args)
	for i, part := range parts {
		parts[i] = made(part, by)
	}
	node := needed(e)
	node.Args = parts
	return by(node)
}

// needed: a node without its parts, with no more than its operator needs, so
// that expressions which mean the same are told alike.
func needed(e api.Expr) api.Expr {
	switch e.Op {
	case api.Col:
		return api.Expr{Op: api.Col, N: e.N}
	case api.Const:
		return constant(cell.Clean(e.V))
	}
	return api.Expr{Op: e.Op}
}

// Copied into new memory, whether it is built or not.
func Copied(e api.Expr) api.Expr {
	_, _, ends := measured(e, mostNodes, mostNested, func(api.Expr) bool { return true })
	if !ends {
		return e
	}
	return made(e, func(node api.Expr) api.Expr { return node })
}

func constant(v api.Value) api.Expr { return api.Expr{Op: api.Const, V: v} }

// columnsIn e, as often as they stand there.
func columnsIn(e api.Expr) []int {
	var columns []int
	if e.Op == api.Col {
		columns = append(columns, e.N)
	}
	for _, part := range e.Args {
		columns = append(columns, columnsIn(part)...)
	}
	return columns
}

// usesBelow: is each column in e below n?
func usesBelow(e api.Expr, n int) bool {
	for _, column := range columnsIn(e) {
		if column >= n {
			return false
		}
	}
	return true
}
