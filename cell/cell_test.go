package cell_test

import (
	"math"
	"testing"

	"tallyhouse/api"
	"tallyhouse/cell"
)

func TestClean(t *testing.T) {
	for _, v := range rising() {
		for _, dirty := range soiled(v) {
			if got := cell.Clean(dirty); got != v {
				t.Errorf("Clean(%v) = %v, not %v", dirty, got, v)
			}
		}
	}
}

func TestOrder(t *testing.T) {
	eachPair(func(i, k int, a, b api.Value) {
		if got := cell.Order(a, b); got != sign(i-k) {
			t.Errorf("Order(%v, %v) = %d", a, b, got)
		}
	})
}

func TestOrderOfLongTexts(t *testing.T) {
	if cell.Order(long(5000), long(5001)) != -1 || cell.Order(long(5001), long(5000)) != 1 || cell.Order(long(5000), long(5000)) != 0 {
		t.Error("Order of texts beyond MaxText")
	}
}

func TestRowsInOrder(t *testing.T) {
	l := [][]api.Value{
		{},
		{null},
		{null, null},
		{null, n(1)},
		{n(-1), s("z"), s("z")},
		{n(1)},
		{n(1), null},
		{n(1), null, null},
		{n(1), n(2)},
		{n(1), s("")},
		{n(2)},
		{s("")},
		{s("a"), n(5)},
		{s("a\x00")},
		{s("ab")},
	}
	for i, a := range l {
		for k, b := range l {
			if got := cell.Rows(a, b); got != sign(i-k) {
				t.Errorf("Rows(%v, %v) = %d", a, b, got)
			}
		}
	}
	if cell.Rows(nil, nil) != 0 || cell.Rows(nil, []api.Value{}) != 0 || cell.Rows(nil, []api.Value{null}) != -1 {
		t.Error("Rows of nil")
	}
}

func TestRowsCountsCleanValues(t *testing.T) {
	eachPair(func(i, k int, a, b api.Value) {
		if got := cell.Rows([]api.Value{n(1), a}, []api.Value{{Kind: api.Int, N: 1, S: "x"}, b}); got != sign(i-k) {
			t.Errorf("Rows of %v and %v = %d", a, b, got)
		}
	})
}

// holds: which of below, the same and behind the operator takes for true.
func holds(op, order int) bool {
	switch op {
	case api.Eq:
		return order == 0
	case api.Ne:
		return order != 0
	case api.Lt:
		return order == -1
	case api.Le:
		return order != 1
	case api.Gt:
		return order == 1
	}
	return order != -1
}

func TestTest(t *testing.T) {
	eachPair(func(i, k int, a, b api.Value) {
		for op := api.Eq; op <= api.Ge; op++ {
			want := n(0)
			if holds(op, sign(i-k)) {
				want = n(1)
			}
			if i == 0 || k == 0 {
				want = null
			}
			if got := cell.Test(op, a, b); got != want {
				t.Errorf("Test(%d, %v, %v) = %v, not %v", op, a, b, got, want)
			}
		}
	})
}

func TestTestByHand(t *testing.T) {
	for _, c := range []struct {
		op         int
		a, b, want api.Value
	}{
		{api.Eq, n(3), n(3), n(1)},
		{api.Eq, n(3), s("3"), n(0)},
		{api.Ne, n(3), s("3"), n(1)},
		{api.Lt, n(math.MaxInt64), s(""), n(1)},
		{api.Gt, s(""), n(math.MaxInt64), n(1)},
		{api.Le, s("a"), s("ab"), n(1)},
		{api.Ge, s("a"), s("ab"), n(0)},
		{api.Eq, null, null, null},
		{api.Ne, null, n(1), null},
		{api.Lt, n(1), null, null},
	} {
		if got := cell.Test(c.op, c.a, c.b); got != c.want {
			t.Errorf("Test(%d, %v, %v) = %v, not %v", c.op, c.a, c.b, got, c.want)
		}
	}
}

func TestTestWithOtherOps(t *testing.T) {
	for _, op := range otherOps(api.Eq, api.Ge) {
		for _, v := range []api.Value{n(1), s("a")} {
			if got := cell.Test(op, v, v); got != null {
				t.Errorf("Test(%d, %v, %v) = %v", op, v, v, got)
			}
		}
	}
}

func TestCat(t *testing.T) {
	for _, c := range []struct{ a, b, want api.Value }{
		{s("ab"), s("c"), s("abc")},
		{s("c"), s("ab"), s("cab")},
		{s(""), s(""), s("")},
		{s(""), s("x"), s("x")},
		{s("x\x00"), s("\xff"), s("x\x00\xff")},
		{long(500), long(500), long(1000)},
		{long(1000), s(""), long(1000)},
		{long(500), long(501), null},
		{long(1000), s("x"), null},
		{s(""), long(1001), null},
		{long(1001), s(""), null},
		{s("x"), n(1), null},
		{n(1), s("x"), null},
		{n(1), n(2), null},
		{null, s("x"), null},
		{s("x"), null, null},
		{null, null, null},
	} {
		for _, a := range soiled(c.a) {
			for _, b := range soiled(c.b) {
				if got := cell.Cat(a, b); got != c.want {
					t.Errorf("Cat(%v, %v) = %v, not %v", a, b, got, c.want)
				}
			}
		}
	}
}
