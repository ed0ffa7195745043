package cost

import (
	"slices"

	"tallyhouse/api"
	"tallyhouse/expr"
)

// tree of some leaves of a spread: a plan, the spread's numbers of its columns,
// and which leaves they are.
type tree struct {
	plan    api.Plan
	columns []int
	leaves  set
}

// trees of all leaves; those of fewer leaves, of which they are made, come
// ahead of them, as a set is a greater number than any that is within it.
func (s *spread) trees() []tree {
	of := make([][]tree, s.all()+1)
	for i, leaf := range s.leaves {
		of[set(1)<<i] = []tree{leaf}
	}
	for some := set(1); some <= s.all(); some++ {
		for _, side := range sides(some) {
			of[some] = append(of[some], s.joinedEach(of[side], of[some&^side])...)
		}
	}
	return of[s.all()]
}

// sides that a Join of these leaves can have first. It is enough to take those
// with the first leaf: a Join costs the same whichever of its sides comes first.
// (So where the leaves can stand in their order they do.)
func sides(of set) []set {
	var list []set
	for side := (of - 1) & of; side > 0; side = (side - 1) & of {
		if side.first() == of.first() {
			list = append(list, side)
		}
	}
	return list
}

// joinedEach tree of one side with each one of the other side.
func (s *spread) joinedEach(first, second []tree) []tree {
	var list []tree
	for _, a := range first {
		for _, b := range second {
			list = append(list, s.joined(a, b))
		}
	}
	return list
}

func (s *spread) joined(a, b tree) tree {
	columns := slices.Concat(a.columns, b.columns)
	to := s.places(columns)
	var own []api.Expr
	for _, one := range s.parts {
		if s.standsAt(one, a.leaves, b.leaves) {
			e, _ := expr.Moved(one.expr, to)
			own = append(own, e)
		}
	}
	p := api.Plan{Op: api.Join, Exprs: []api.Expr{expr.All(own)}, Args: []api.Plan{a.plan, b.plan}}
	return tree{p, columns, a.leaves | b.leaves}
}

// places: where each column of the spread stands among these.
func (s *spread) places(columns []int) []int {
	to := make([]int, len(s.owners))
	for i, column := range columns {
		to[column] = i
	}
	return to
}

// standsAt: is the Join of these two sides the innermost one beneath which all
// columns of the part are; of a part without columns, the outermost one?
func (s *spread) standsAt(p part, first, second set) bool {
	if p.uses == 0 {
		return first|second == s.all()
	}
	return (first | second).has(p.uses) && !standsWithin(p, first) && !standsWithin(p, second)
}

// standsWithin: is there a Join of these leaves, and are all columns of the part
// beneath it?
func standsWithin(p part, side set) bool { return side.count() > 1 && side.has(p.uses) }

// inOrder: the plan of a tree of all leaves, with a Project over it where its
// columns do not come in the spread's order.
func (s *spread) inOrder(t tree) api.Plan {
	if slices.IsSorted(t.columns) {
		return t.plan
	}
	var columns []api.Expr
	for _, place := range s.places(t.columns) {
		columns = append(columns, api.Expr{Op: api.Col, N: place})
	}
	return api.Plan{Op: api.Project, Exprs: columns, Args: []api.Plan{t.plan}}
}
