package rule_test

import (
	"math/rand"
	"testing"

	"tallyhouse/api"
	"tallyhouse/plan"
	"tallyhouse/rule"
)

// shaped: a plan of which the rule, or one near it, asks something.
func (m maker) shaped(number int) api.Plan {
	x := m.small()
	switch number {
	case 1, 2, 3, 4, 5, 12, 13, 14, 27:
		return m.filterShaped(number, x, m.kinds(x))
	case 6, 7, 8, 9, 10, 11, 17, 20, 31:
		return m.joinShaped(number, x, m.small())
	case 18, 19:
		return m.joinsShaped(number, x, m.small(), m.small())
	case 26, 28, 29, 30:
		return m.emptyShaped(x, m.kinds(x))
	case 15:
		inner := project(x, m.exprs(m.kinds(x))...)
		return project(inner, m.exprs(m.kinds(inner))...)
	case 16:
		return project(x, columns(rising(len(m.kinds(x))))...)
	case 21:
		return distinct([]api.Plan{distinct(x), m.group(x, m.kinds(x))}[m.Intn(2)])
	case 22, 23:
		return union([]api.Plan{union(x, m.like(x)), m.like(x), union(m.like(x))}[m.Intn(3):]...)
	case 24, 25:
		return m.topShaped(number, x)
	case 32:
		return m.group(x, m.kinds(x))
	}
	return project(x, m.exprs(m.kinds(x))...)
}

func (m maker) exprs(kinds []int) []api.Expr {
	var list []api.Expr
	for range 1 + m.Intn(4) {
		list = append(list, m.expr(api.Int+m.Intn(2), kinds, 1+m.Intn(3)))
	}
	return list
}

func (m maker) filterShaped(number int, x api.Plan, kinds []int) api.Plan {
	e := m.parts(kinds, 0, len(kinds))
	switch number {
	case 2:
		return filter(e, filter(m.parts(kinds, 0, len(kinds)), x))
	case 3:
		x = project(x, m.exprs(kinds)...)
		return filter(m.expr(api.Int, m.kinds(x), 3), x)
	case 4:
		return filter(e, union([]api.Plan{x, m.like(x), m.like(x)}[:1+m.Intn(3)]...))
	case 5:
		return filter(e, distinct(x))
	case 12:
		x = m.group(x, kinds)
		return filter(m.exprOf(api.Int, m.kinds(x), rising(len(x.Cols))), x)
	case 13:
		x = m.window(x, kinds)
		return filter(m.exprOf(api.Int, kinds, x.Cols), x)
	case 14:
		return filter(e, minus(x, m.like(x)))
	case 27:
		return filter(m.exprOf(api.Int, kinds, nil), x)
	}
	return filter(e, x)
}

func (m maker) joinShaped(number int, x, y api.Plan) api.Plan {
	kinds := append(m.kinds(x), m.kinds(y)...)
	first := len(m.kinds(x))
	low, high := 0, first
	if m.Intn(2) == 0 {
		low, high = first, len(kinds)
	}
	op := api.Join + m.Intn(2)
	if number == 7 || number == 10 || number == 17 {
		op = api.Join
	}
	c := m.condition(m.kinds(x), m.kinds(y))
	if number >= 9 && number <= 11 {
		c = of(api.And, c, m.parts(kinds, low, high))
	}
	p := join(op, c, x, y)
	switch {
	case number == 20:
		compared := m.exprOf(api.Int, kinds, rising(len(kinds))[first:])
		return filter(of(api.Eq+m.Intn(6), compared, m.expr(api.Int, kinds, 2)), join(api.LeftJoin, c, x, y))
	case number == 31:
		return project(p, m.exprs(kinds)...)
	case number <= 8:
		return filter(m.exprOf(api.Int, kinds, rising(high)[low:]), p)
	}
	return p
}

func (m maker) joinsShaped(number int, x, y, z api.Plan) api.Plan {
	ofX, ofY, ofZ := m.kinds(x), m.kinds(y), m.kinds(z)
	both := append(append([]int{}, ofX...), ofY...)
	all := append(append([]int{}, both...), ofZ...)
	if number == 18 {
		c := m.exprOf(api.Int, all, rising(len(all))[len(ofX):])
		return join(api.Join, c, join(api.Join, m.condition(ofX, ofY), x, y), z)
	}
	d := m.exprOf(api.Int, all, rising(len(both)))
	return join(api.Join, d, x, join(api.Join, m.condition(ofY, ofZ), y, z))
}

func (m maker) topShaped(number int, x api.Plan) api.Plan {
	keys := m.keys(len(m.kinds(x)))
	if number == 24 {
		x = top(x, m.Intn(6), m.Intn(4), keys...)
	} else {
		x = union([]api.Plan{x, m.like(x)}[:1+m.Intn(2)]...)
	}
	return top(x, m.Intn(6), m.Intn(4), keys...)
}

func (m maker) emptyShaped(x api.Plan, kinds []int) api.Plan {
	none := empty(kinds...)
	never := m.exprOf(api.Int, kinds, nil)
	cases := []api.Plan{
		filter(never, x), join(api.Join, never, x, m.small()), join(api.LeftJoin, never, x, m.small()),
		top(x, m.Intn(2), m.Intn(2)),
		filter(m.expr(api.Int, kinds, 2), none), project(none, m.exprs(kinds)...), distinct(none), top(none, 2, 1),
		m.window(none, kinds), m.group(none, kinds),
		join(api.Join, num(1), none, x), join(api.Join, num(1), x, none), join(api.LeftJoin, num(1), none, x), join(api.LeftJoin, num(1), x, none),
		minus(none, x), minus(x, none), union(none), union(none, none), union(x, none), union(none, x, m.like(x), none),
	}
	return cases[m.Intn(len(cases))]
}

// within: the plan, or one in which it stands.
func (m maker) within(p api.Plan) api.Plan {
	switch m.Intn(6) {
	case 0:
		return distinct(p)
	case 1:
		return join(api.LeftJoin, num(1), scan("v"), p)
	case 2:
		return union(m.like(p), p)
	case 3:
		return minus(m.like(p), p)
	}
	return p
}

// each of many plans, for the shapes of all rules, over many tables.
func each(seed int64, count int, see func(m maker, number int, p api.Plan)) {
	m := maker{Rand: rand.New(rand.NewSource(seed))}
	for i := range count {
		m.tables = []api.Table{m.table("t", "it"), m.table("u", "iti"), m.table("v", "t")}
		number := 1 + i%33
		p := m.within(m.shaped(number))
		if _, e := plan.Check(p, m.tables); e == api.OK && span(p, m.tables) <= 2000 {
			see(m, number, p)
		}
	}
}

func TestEveryRuleKeepsTheMeaning(t *testing.T) {
	applied, changed := [34]int{}, [34]int{}
	each(1, 33*250, func(m maker, _ int, p api.Plan) {
		for number := 1; number <= 33; number++ {
			places, e := rule.Places(number, p, m.tables)
			if e != api.OK {
				t.Fatalf("Places of rule %d in %s: error %d", number, printed(p), e)
			}
			for _, at := range places {
				made, e := rule.Apply(number, p, at, m.tables)
				if e != api.OK {
					t.Fatalf("rule %d at %v of %s: error %d", number, at, printed(p), e)
				}
				keepsMeaning(t, "a rule", p, made, m.tables)
				applied[number]++
				if !same(p, made) {
					changed[number]++
				}
			}
		}
	})
	for number := 1; number <= 33; number++ {
		if applied[number] < 40 || changed[number] < applied[number] {
			t.Errorf("rule %d was applied %d times, and changed the plan %d times", number, applied[number], changed[number])
		}
	}
}

// TestRuleUponRule: what a rule makes is a plan as any other.
func TestRuleUponRule(t *testing.T) {
	each(2, 33*40, func(m maker, _ int, p api.Plan) {
		from := p
		for range 12 {
			number := 1 + m.Intn(33)
			places, _ := rule.Places(number, p, m.tables)
			if len(places) == 0 {
				continue
			}
			made, e := rule.Apply(number, p, places[m.Intn(len(places))], m.tables)
			if e != api.OK {
				t.Fatalf("rule %d of %s: error %d", number, printed(p), e)
			}
			p = made
		}
		keepsMeaning(t, "rules", from, p, m.tables)
	})
}

// TestOtherErrorsAreNone: what a rule makes is never of the wrong kinds.
func TestOtherErrorsAreNone(t *testing.T) {
	each(3, 33*30, func(m maker, _ int, p api.Plan) {
		for number := 1; number <= 33; number++ {
			for _, at := range everyPlace(p) {
				made, e := rule.Apply(number, p, at, m.tables)
				switch {
				case e == api.OK:
				case e != api.ErrRule && e != api.ErrLarge && e != api.ErrArg:
					t.Fatalf("rule %d at %v of %s: error %d", number, at, printed(p), e)
				case !isZero(made):
					t.Fatalf("rule %d at %v of %s: error %d with %v", number, at, printed(p), e, made)
				}
			}
		}
	})
}
