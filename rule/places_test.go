package rule_test

import (
	"slices"
	"strconv"
	"testing"

	"tallyhouse/api"
	"tallyhouse/rule"
)

func TestPlaces(t *testing.T) {
	for _, c := range []struct {
		number int
		text   string
		want   [][]int
	}{
		{27, "(distinct (filter 1 (filter 1 (scan t))))", [][]int{{0}, {0, 0}}},
		{27, "(filter 1 (scan t))", [][]int{{}}},
		{27, "(filter 0 (scan t))", nil},
		{27, "(scan t)", nil},
		{27, "(union (filter 1 (filter 1 (scan t))) (filter 0 (filter 1 (scan t))) (filter 1 (scan t)))", [][]int{{0}, {0, 0}, {1, 0}, {2}}},
		{17, "(join 1 (join 1 (scan u) (join 1 (scan u) (scan u))) (join 1 (scan u) (scan u)))", [][]int{{}, {0}, {0, 1}, {1}}},
		{26, "(filter 1 (minus (top () 0 0 (filter 0 (scan t))) (filter 0 (filter null (scan t)))))", [][]int{{0, 0}, {0, 0, 0}, {0, 1}, {0, 1, 0}}},
		{33, "(project ((add 1 1)) (filter (gt #1 (add 1 1)) (project ((cat null \"a\")  #0) (filter (neg 1) (scan t)))))", [][]int{{}, {0}, {0, 0, 0}}},
	} {
		p := parsed(t, c.text)
		places, e := rule.Places(c.number, p, someTables())
		if e != api.OK || !samePlaces(places, c.want) {
			t.Errorf("the places of rule %d in %s are %v, error %d, not %v", c.number, c.text, places, e, c.want)
		}
	}
}

// everyPlace in a plan: a place ahead of those within it.
func everyPlace(p api.Plan) [][]int {
	places := [][]int{{}}
	for i, arg := range p.Args {
		for _, within := range everyPlace(arg) {
			places = append(places, slices.Concat([]int{i}, within))
		}
	}
	return places
}

func TestPlacesAreThoseAtWhichApplyGivesAPlan(t *testing.T) {
	each(11, 33*20, func(m maker, _ int, p api.Plan) {
		for number := 1; number <= 33; number++ {
			var want [][]int
			for _, at := range everyPlace(p) {
				if _, e := rule.Apply(number, p, at, m.tables); e == api.OK {
					want = append(want, at)
				}
			}
			if places, e := rule.Places(number, p, m.tables); e != api.OK || !samePlaces(places, want) {
				t.Fatalf("the places of rule %d in %s are %v, error %d, not %v", number, printed(p), places, e, want)
			}
		}
	})
}

func TestPlacesOfAPlanThatIsAsLargeAsCanBe(t *testing.T) {
	p := union(slices.Repeat([]api.Plan{filter(num(1), scan("t"))}, 133)...)
	// Many more tables than the plan speaks of.
	tables := someTables()
	for i := range 20000 {
		tables = append(tables, table("many"+strconv.Itoa(i), "iii"))
	}
	for number := 1; number <= 33; number++ {
		places, e := rule.Places(number, p, tables)
		count := 0
		if number == 27 {
			count = 133
		}
		if e != api.OK || len(places) != count {
			t.Errorf("rule %d has %d places, error %d", number, len(places), e)
		}
	}
}
