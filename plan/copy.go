package plan

import (
	"slices"

	"tallyhouse/api"
	"tallyhouse/expr"
)

// Copied into new memory: a plan that is built.
func Copied(p api.Plan) api.Plan {
	p.Exprs, p.Args = slices.Clone(p.Exprs), slices.Clone(p.Args)
	p.Cols, p.Keys, p.Aggs = slices.Clone(p.Cols), slices.Clone(p.Keys), slices.Clone(p.Aggs)
	for i, e := range p.Exprs {
		p.Exprs[i] = expr.Copied(e)
	}
	for i, arg := range p.Args {
		p.Args[i] = Copied(arg)
	}
	return p
}
