package expr_test

import (
	"math"
	"math/rand"
	"slices"
	"strings"
	"testing"

	"tallyhouse/api"
	"tallyhouse/cell"
	"tallyhouse/expr"
)

var null api.Value

func n(x int64) api.Value { return api.Value{Kind: api.Int, N: x} }

func s(x string) api.Value { return api.Value{Kind: api.Text, S: x} }

func long(size int) string { return strings.Repeat("x", size) }

func col(i int) api.Expr { return api.Expr{Op: api.Col, N: i} }

func con(v api.Value) api.Expr { return api.Expr{Op: api.Const, V: v} }

func num(x int64) api.Expr { return con(n(x)) }

func txt(x string) api.Expr { return con(s(x)) }

func of(op int, parts ...api.Expr) api.Expr { return api.Expr{Op: op, Args: parts} }

// parts: how many each operator has, as the document's list of them says.
var parts = map[int]int{
	api.Col: 0, api.Const: 0,
	api.Neg: 1, api.Not: 1, api.IsNull: 1, api.Len: 1,
	api.Add: 2, api.Sub: 2, api.Mul: 2, api.Div: 2, api.Mod: 2,
	api.Eq: 2, api.Ne: 2, api.Lt: 2, api.Le: 2, api.Gt: 2, api.Ge: 2,
	api.Cat: 2, api.And: 2, api.Or: 2,
	api.If: 3,
}

// high: of this height, with one node on each level.
func high(height int) api.Expr {
	e := num(1)
	for range height - 1 {
		e = of(api.Neg, e)
	}
	return e
}

// wide: of so many nodes, and low.
func wide(nodes int) api.Expr {
	switch {
	case nodes == 1:
		return col(0)
	case nodes == 2:
		return of(api.Not, col(0))
	}
	return of(api.Add, wide((nodes-1)/2), wide(nodes-1-(nodes-1)/2))
}

// notBuilt: expressions that break the rule for one that is built.
func notBuilt() map[string]api.Expr {
	out := map[string]api.Expr{
		"nothing":                       {},
		"operator 0 with a part":        of(0, num(1)),
		"operator -1":                   of(-1),
		"operator 22":                   of(22, num(1), num(2)),
		"operator 22 of three":          of(22, num(1), num(2), num(3)),
		"the greatest operator":         of(math.MaxInt, num(1), num(2)),
		"the least operator":            of(math.MinInt, num(1), num(2)),
		"column -1":                     col(-1),
		"the least column":              col(math.MinInt),
		"a long text":                   txt(long(api.MaxText + 1)),
		"a long text with a number":     con(api.Value{Kind: api.Text, N: 4, S: long(api.MaxText + 1)}),
		"a constant with a part":        {Op: api.Const, V: n(1), Args: []api.Expr{num(1)}},
		"a column with a part":          {Op: api.Col, Args: []api.Expr{num(1)}},
		"41 high":                       high(41),
		"41 high on the right":          of(api.Add, num(1), high(40)),
		"42 high":                       high(42),
		"50000 high":                    high(50000),
		"401 nodes":                     wide(401),
		"402 nodes":                     wide(402),
		"5000 nodes":                    wide(5000),
		"a wrong part":                  of(api.Add, num(1), of(99)),
		"a wrong first part":            of(api.Add, col(-5), num(1)),
		"a wrong part deep within":      of(api.If, num(1), of(api.Not, of(api.Eq, num(1), txt(long(1001)))), num(2)),
		"an And with a wrong part":      of(api.And, num(1), of(api.And, num(2), col(-1))),
		"a wrong part where none looks": of(api.If, num(1), num(2), of(api.Cat, num(1))),
	}
	for op, right := range parts {
		for count := range 5 {
			if count != right {
				e := of(op)
				for i := range count {
					e.Args = append(e.Args, num(int64(i)))
				}
				out["operator with a wrong number of parts: "+string(rune('a'+op))+string(rune('0'+count))] = e
			}
		}
	}
	return out
}

// endless: what is nested in itself, or shares its parts so often that it
// would fill all memory if each were written out.
func endless() map[string]api.Expr {
	loop := []api.Expr{{Op: api.Neg}}
	loop[0].Args = loop
	both := []api.Expr{{Op: api.And}, {Op: api.And}}
	both[0].Args, both[1].Args = both, both
	second := []api.Expr{num(1), {Op: api.And}}
	second[1].Args = second
	shared := num(1)
	for range 60 {
		shared = of(api.And, shared, shared)
	}
	return map[string]api.Expr{"a loop": loop[0], "a loop of two": both[0], "a loop on the right": second[1], "shared": shared}
}

// same: Args that are empty may be nil.
func same(a, b api.Expr) bool {
	return a.Op == b.Op && a.N == b.N && a.V == b.V && slices.EqualFunc(a.Args, b.Args, same)
}

func sameAll(a, b []api.Expr) bool { return slices.EqualFunc(a, b, same) }

// twin of e, with clean values, that shares no memory with it.
func twin(e api.Expr) api.Expr {
	t := api.Expr{Op: e.Op, N: e.N, V: cell.Clean(e.V)}
	for _, part := range e.Args {
		t.Args = append(t.Args, twin(part))
	}
	return t
}

func twins(list []api.Expr) []api.Expr {
	var out []api.Expr
	for _, e := range list {
		out = append(out, twin(e))
	}
	return out
}

// random: any expression at most so high; of columns below six.
func random(r *rand.Rand, height int) api.Expr {
	if height == 1 || r.Intn(6) == 0 {
		if r.Intn(2) == 0 {
			return col(r.Intn(6))
		}
		return con(anyValue(r))
	}
	op := api.Neg + r.Intn(api.If-api.Neg+1)
	if r.Intn(3) == 0 {
		op = []int{api.And, api.Or, api.If, api.Not}[r.Intn(4)]
	}
	e := of(op)
	for range parts[op] {
		e.Args = append(e.Args, random(r, height-1))
	}
	return e
}

func anyValue(r *rand.Rand) api.Value {
	list := []api.Value{null, n(0), n(1), n(-1), n(2), n(7), n(math.MaxInt64), n(math.MinInt64), s(""), s("a"), s("\x00\xff"), s("b"), s(long(600))}
	return list[r.Intn(len(list))]
}

func anyRow(r *rand.Rand, size int) []api.Value {
	row := make([]api.Value, size)
	for i := range row {
		row[i] = anyValue(r)
	}
	return row
}

// each of many expressions that are built, with a source of more.
func each(t *testing.T, seed int64, see func(r *rand.Rand, e api.Expr)) {
	t.Helper()
	r := rand.New(rand.NewSource(seed))
	built := 0
	for range 20000 {
		e := random(r, 1+r.Intn(6))
		if nodes, _ := expr.Size(e); nodes <= api.MaxNodes {
			built++
			see(r, e)
		}
	}
	if built < 15000 {
		t.Fatalf("only %d expressions were built", built)
	}
}

func refused(t *testing.T, what string, e api.Expr, err, want api.Errno) {
	t.Helper()
	if err != want || !same(e, api.Expr{}) {
		t.Errorf("%s: %v, error %d, not only error %d", what, e, err, want)
	}
}
