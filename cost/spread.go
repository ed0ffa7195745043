package cost

import (
	"math/bits"
	"slices"

	"tallyhouse/api"
	"tallyhouse/expr"
	"tallyhouse/plan"
)

// spread: Joins that stand in one another, taken apart. A column has the number
// that it has in the whole of it.
type spread struct {
	leaves []tree
	owners []set // of each column the leaf that has it
	parts  []part
}

// part of the conditions, and the leaves whose columns it uses.
type part struct {
	expr api.Expr
	uses set
}

// set of leaves: the bit i stands for the leaf i.
type set uint

func (s set) count() int { return bits.OnesCount(uint(s)) }

func (s set) first() int { return bits.TrailingZeros(uint(s)) }

func (s set) has(others set) bool { return s&others == others }

// countLeaves of the Joins that stand in one another from p on.
func countLeaves(p api.Plan) int {
	if p.Op != api.Join {
		return 1
	}
	return countLeaves(p.Args[0]) + countLeaves(p.Args[1])
}

// takenApart: p, a Join of few leaves.
func takenApart(p api.Plan, tables []api.Table) *spread {
	s := &spread{}
	s.take(p, tables)
	return s
}

// take p apart, behind what has been taken, and tell the numbers of its columns.
// Its parts come in their order: those within the first Arg, those within the
// second one, its own.
func (s *spread) take(p api.Plan, tables []api.Table) []int {
	if p.Op != api.Join {
		return s.takeLeaf(p, tables)
	}
	columns := slices.Concat(s.take(p.Args[0], tables), s.take(p.Args[1], tables))
	for _, e := range expr.Parts(p.Exprs[0]) {
		e, _ = expr.Moved(e, columns)
		s.parts = append(s.parts, part{e, s.usedBy(e)})
	}
	return columns
}

func (s *spread) takeLeaf(p api.Plan, tables []api.Table) []int {
	kinds, _ := plan.Check(p, tables)
	self := set(1) << len(s.leaves)
	var columns []int
	for range kinds {
		columns = append(columns, len(s.owners))
		s.owners = append(s.owners, self)
	}
	s.leaves = append(s.leaves, tree{p, columns, self})
	return columns
}

// usedBy an expression: the leaves whose columns are in it.
func (s *spread) usedBy(e api.Expr) set {
	var uses set
	for _, column := range expr.Columns(e) {
		uses |= s.owners[column]
	}
	return uses
}

// all leaves.
func (s *spread) all() set { return set(1)<<len(s.leaves) - 1 }
