package plan

import "tallyhouse/api"

// Gatherer of the rows of an Arg, for an operator that can tell nothing ahead
// of the last one of them.
type Gatherer interface {
	// Add a row, which is lent for the call alone.
	Add(row []api.Value)
	// Rows that the operator means, in any order. Nothing is added behind that.
	Rows() [][]api.Value
}

// Gathering for p, a Group, Top or Window, of rows that fit it.
func Gathering(p api.Plan) Gatherer {
	switch p.Op {
	case api.Group:
		return newGroups(p)
	case api.Top:
		return newFirst(p)
	}
	return newParts(p)
}

func (n *node) eachGathered(take taker) {
	all := Gathering(n.plan)
	n.args[0].each(all.Add)
	for _, row := range all.Rows() {
		take(row)
	}
}
