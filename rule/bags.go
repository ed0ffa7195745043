package rule

import (
	"math"
	"slices"

	"tallyhouse/api"
)

// distinctTwice is rule 21.
func distinctTwice(p api.Plan, _ schema) (api.Plan, bool) {
	if !stands(p, api.Distinct, api.Distinct, api.Group) {
		return api.Plan{}, false
	}
	return p.Args[0], true
}

// unionOfOne is rule 22.
func unionOfOne(p api.Plan, _ schema) (api.Plan, bool) {
	if p.Op != api.Union || len(p.Args) != 1 {
		return api.Plan{}, false
	}
	return p.Args[0], true
}

// unionsJoined is rule 23.
func unionsJoined(p api.Plan, _ schema) (api.Plan, bool) {
	if p.Op != api.Union {
		return api.Plan{}, false
	}
	i := firstOf(p.Args, api.Union)
	if i < 0 {
		return api.Plan{}, false
	}
	return with(p, slices.Concat(p.Args[:i], p.Args[i].Args, p.Args[i+1:])...), true
}

// firstOf the plans that is of this operator: where it stands; -1: nowhere.
func firstOf(plans []api.Plan, op int) int {
	return slices.IndexFunc(plans, func(p api.Plan) bool { return p.Op == op })
}

// topsJoined is rule 24.
func topsJoined(p api.Plan, _ schema) (api.Plan, bool) {
	if !stands(p, api.Top, api.Top) {
		return api.Plan{}, false
	}
	x := p.Args[0]
	if !slices.Equal(p.Keys, x.Keys) || x.Off > math.MaxInt-p.Off {
		return api.Plan{}, false
	}
	left := max(x.N-p.Off, 0)
	return api.Plan{Op: api.Top, Keys: p.Keys, N: min(p.N, left), Off: x.Off + p.Off, Args: x.Args}, true
}

// topUnderUnion is rule 25.
func topUnderUnion(p api.Plan, _ schema) (api.Plan, bool) {
	if !stands(p, api.Top, api.Union) || p.N > math.MaxInt-p.Off {
		return api.Plan{}, false
	}
	x := p.Args[0]
	args := slices.Clone(x.Args)
	for i, arg := range args {
		args[i] = api.Plan{Op: api.Top, Keys: p.Keys, N: p.N + p.Off, Args: []api.Plan{arg}}
	}
	return with(p, with(x, args...)), true
}
