// Package openorder looks for places at which the language leaves an order open
// on which an answer hangs: that of a call and of a reading beside it of what the
// call may change (P1; rules 4 and 5 of the language). No input finds them while
// the toolchain at hand happens to take the right order: so the program's text
// is looked at.
package openorder

import "testing"

func TestNoOrderIsLeftOpen(t *testing.T) {
	for _, place := range wholeProgram(t, "..").openPlaces() {
		t.Error(place)
	}
}

// Beneath the functions of the tests stand these: add and its like change n and
// list, look changes nothing.
const beneath = `
type bag struct {
	n, other int
	list []int
	parts [2]int
	next *bag
}

func (b *bag) add() int {
	b.list = append(b.list, b.n)
	b.n++
	b.parts[0]++
	return len(b.list) - 1
}

func (b *bag) addTwice() int { return b.add() + b.add() }

func (b *bag) look() int { return b.n }

func (b bag) copied() int { return b.n }

func (b *bag) anew() int {
	*b = bag{}
	return 0
}

func two(a, b int) int { return a + b }

func each(do func() int) int { return do() }

type adder interface{ add() int }

var _ adder = &bag{}
`

func wantOpen(t *testing.T, open bool, bodies []string) {
	t.Helper()
	for _, body := range bodies {
		text := beneath + "func test(b *bag, a adder, do func() int) (int, int) {\n" + body + "\n}"
		if found := smallProgram(t, text).openPlaces(); (len(found) > 0) != open {
			t.Errorf("%s: %q", body, found)
		}
	}
}

func TestOpenOrdersAreFound(t *testing.T) {
	wantOpen(t, true, []string{
		"return b.list[b.add()], 0",
		"return b.list[b.addTwice()], 0",
		"return b.next.list[b.add()], 0",
		"return b.n, b.add()",
		"return b.add(), b.n",
		"return b.n, b.anew()",
		"return b.copied(), two(b.n, b.add())",
		"return two(b.add(), b.look()) + b.n, 0",
		"return b.add() + b.look() * two(b.n, 0), 0",
		"return b.n, a.add()",
		"return len(b.list) + b.add(), 0",
		"return b.parts[1], b.add()",
		"b.n += b.add(); return 0, 0",
		"b.list[0] = b.add(); return 0, 0",
		"b.list = append(b.list, b.add()); return 0, 0",
		"x := [2]int{b.n, b.add()}; return x[0], 0",
		"x := bag{n: b.add(), other: b.n}; return x.n, 0",
		"if b.n == b.add() { return 0, 0 }; return 1, 0",
		"for b.n < b.add() { }; return 0, 0",
		"switch { case b.n < b.add(): return 1, 0 }; return 0, 0",
		"n := 0; next := func() int { n++; return n }; return n, next()",
		"n := 0; return n, each(func() int { n++; return n })",
		"var c bag; return c.n, c.add()",
		"var c bag; return c.copied() + two(c.copied(), 0) + c.n, c.add()",
		"var c bag; return two(0, c.add()) + c.parts[0], 0",
		"next := b.add; return b.n, next()",
		"return b.n, func() int { b.n = 5; return 0 }()",
		"return two(b.n, 0) + func() int { return b.n + b.add() }(), 0",
		"defer two(b.n, b.add()); return 0, 0",
	})
}

func TestOrdersThatAreLaidDown(t *testing.T) {
	wantOpen(t, false, []string{
		"at := b.add(); return b.list[at], 0",
		"return b.add(), b.add()",
		"return b.look(), b.add()",
		"return b.copied(), b.add()",
		"return b.other, b.add()",
		"return b.n, b.look()",
		"return two(b.n, 0), b.add()",
		"return two(b.n, b.look()) + b.add(), 0",
		"if b.n > 0 && b.add() > 0 { return 1, 0 }; return 0, 0",
		"if b.add() > 0 && b.n > 0 { return 1, 0 }; return 0, 0",
		"if b.add() > 0 || b.n > 0 { return 1, 0 }; return 0, 0",
		"b.n = b.add(); return 0, 0",
		"b.other += b.add(); return 0, 0",
		"n := b.n; return n, b.add()",
		"c := *b; return c.n, b.add()",
		"switch b.add() { case b.n: return 1, 0 }; return 0, 0",
		"next := func() int { return b.add() }; return b.other, next()",
		"for range b.add() { return b.n, 0 }; return 0, 0",
	})
}
