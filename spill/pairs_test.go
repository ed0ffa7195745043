package spill_test

import (
	"math"
	"math/rand"
	"testing"

	"tallyhouse/api"
	"tallyhouse/plain"
	"tallyhouse/spill"
)

func pairsOf(t *testing.T, what string, a, b [][]api.Value, left, right []int, budget int) *ward {
	t.Helper()
	w := newWard(budget)
	w.check(t, what, spill.Pairs(w.stream(a), w.stream(b), left, right, budget, w, w))
	return w
}

func TestPairs(t *testing.T) {
	a := [][]api.Value{
		row(num(2), text("b")), row(num(1), text("z")), row(null, text("n")), row(num(2), text("a")), row(), row(text("1"), num(8)), ints(9),
	}
	b := [][]api.Value{
		row(text("q"), num(2)), row(text("p"), num(2)), row(text("o"), num(1)), row(text("m")), row(text("l"), null), row(num(8), text("1")), ints(7, 7),
	}
	want := [][]api.Value{
		row(num(1), text("z"), text("o"), num(1)),
		row(num(2), text("a"), text("p"), num(2)),
		row(num(2), text("a"), text("q"), num(2)),
		row(num(2), text("b"), text("p"), num(2)),
		row(num(2), text("b"), text("q"), num(2)),
		row(text("1"), num(8), num(8), text("1")),
	}
	for budget := 4; budget < 30; budget++ {
		wantRows(t, "Pairs", pairsOf(t, "Pairs", a, b, []int{0}, []int{1}, budget).out, want)
	}
}

// Pairs of rows that are the same stand side by side: they are in the order of
// b's rows, not of how often a's stand there.
func TestPairsOfSameRows(t *testing.T) {
	a := [][]api.Value{ints(1), ints(1), ints(1, 5), ints(1)}
	b := [][]api.Value{ints(1, 8), ints(1, 9), ints(1, 8)}
	want := [][]api.Value{
		ints(1, 1, 8), ints(1, 1, 8), ints(1, 1, 8), ints(1, 1, 8), ints(1, 1, 8), ints(1, 1, 8), ints(1, 1, 9), ints(1, 1, 9), ints(1, 1, 9),
		ints(1, 5, 1, 8), ints(1, 5, 1, 8), ints(1, 5, 1, 9),
	}
	for budget := 4; budget < 20; budget++ {
		wantRows(t, "Pairs", pairsOf(t, "Pairs", a, b, []int{0}, []int{0}, budget).out, want)
	}
}

func TestPairsOfSeveralColumns(t *testing.T) {
	a := [][]api.Value{ints(1, 2), ints(2, 1), ints(1, 1), row(num(1), null)}
	b := [][]api.Value{ints(2, 1), ints(1, 2), ints(1, 1), row(null, num(1))}
	for what, c := range map[string]struct {
		left, right []int
		want        [][]api.Value
	}{
		"one by one":          {[]int{0, 1}, []int{0, 1}, [][]api.Value{ints(1, 1, 1, 1), ints(1, 2, 1, 2), ints(2, 1, 2, 1)}},
		"crosswise":           {[]int{0, 1}, []int{1, 0}, [][]api.Value{ints(1, 1, 1, 1), ints(1, 2, 2, 1), ints(2, 1, 1, 2)}},
		"by the second first": {[]int{1, 0}, []int{1, 0}, [][]api.Value{ints(1, 1, 1, 1), ints(2, 1, 2, 1), ints(1, 2, 1, 2)}},
		"one with two":        {[]int{0, 0}, []int{0, 1}, [][]api.Value{row(num(1), null, num(1), num(1)), ints(1, 1, 1, 1), ints(1, 2, 1, 1)}},
		"not there":           {[]int{math.MaxInt}, []int{math.MaxInt}, nil},
	} {
		for budget := 4; budget < 12; budget++ {
			wantRows(t, what, pairsOf(t, what, a, b, c.left, c.right, budget).out, c.want)
		}
	}
}

func TestAllPairs(t *testing.T) {
	a := [][]api.Value{ints(2), row(), row(null)}
	b := [][]api.Value{row(text("x")), row(null), row()}
	want := [][]api.Value{
		row(), row(null), row(text("x")),
		row(null), row(null, null), row(null, text("x")),
		ints(2), row(num(2), null), row(num(2), text("x")),
	}
	for budget := 4; budget < 12; budget++ {
		wantRows(t, "all", pairsOf(t, "all", a, b, nil, []int{}, budget).out, want)
		wantRows(t, "none of a", pairsOf(t, "none of a", nil, b, nil, nil, budget).out, nil)
		wantRows(t, "none of b", pairsOf(t, "none of b", a, nil, nil, nil, budget).out, nil)
		wantRows(t, "none", pairsOf(t, "none", nil, nil, nil, nil, budget).out, nil)
	}
}

func TestPairsAtRandom(t *testing.T) {
	r := rand.New(rand.NewSource(4))
	for range 2500 {
		unlike, budget := 1+r.Intn(12), 4+r.Intn(30)
		a, b := manyRows(r, r.Intn(60), 3, unlike), manyRows(r, r.Intn(60), 3, unlike)
		var left, right []int
		for range r.Intn(3) {
			left, right = append(left, r.Intn(3)), append(right, r.Intn(3))
		}
		w := pairsOf(t, "Pairs", a, b, left, right, budget)
		wantRows(t, "Pairs", w.out, modelPairs(a, b, left, right))
	}
}

// Many more rows of one value than may be held, on both sides.
func TestPairsOfLargeGroups(t *testing.T) {
	var a, b [][]api.Value
	for i := range int64(150) {
		a = append(a, ints(i%3, i%40))
		b = append(b, ints(i%70, i%3))
	}
	for _, budget := range []int{4, 5, 7, 16, 100, 1000} {
		w := pairsOf(t, "Pairs", a, b, []int{0}, []int{1}, budget)
		wantRows(t, "Pairs", w.out, modelPairs(a, b, []int{0}, []int{1}))
	}
}

// What can be held need not be laid away; and a row of b is laid away for each
// pair at most, beside what putting in order takes.
func TestPutsOfPairs(t *testing.T) {
	a, b := counted(20), counted(20)
	if w := pairsOf(t, "Pairs", a, b, []int{0}, []int{0}, 100); w.news != 0 {
		t.Errorf("%d runs for few rows", w.news)
	}
	w := pairsOf(t, "Pairs", a, b, nil, nil, 4)
	if most := len(w.out) + 2*(20+mostPuts(20, 4)); w.puts > most {
		t.Errorf("%d Puts, more than %d", w.puts, most)
	}
}

func TestPairsInAPlainYard(t *testing.T) {
	r := rand.New(rand.NewSource(5))
	a, b := manyRows(r, 300, 3, 40), manyRows(r, 300, 3, 40)
	want := modelPairs(a, b, []int{1}, []int{0})
	for budget := 4; budget < 40; budget++ {
		y := plain.New(0, api.OK)
		e := spill.Pairs(y.Stream(a), y.Stream(b), []int{1}, []int{0}, budget, y, y)
		if e != api.OK || y.Wrong || y.Held != 0 || y.Most > budget || y.Left() != 0 || !sameRows(y.Out, want) {
			t.Errorf("budget %d: %d, held %d, at most %d, left %d, wrong %v", budget, e, y.Held, y.Most, y.Left(), y.Wrong)
		}
	}
}
