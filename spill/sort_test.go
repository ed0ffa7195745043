package spill_test

import (
	"math"
	"math/rand"
	"slices"
	"strconv"
	"testing"

	"tallyhouse/api"
	"tallyhouse/plain"
	"tallyhouse/spill"
)

func sortedBy(t *testing.T, what string, rows [][]api.Value, keys []api.Key, budget int) *ward {
	t.Helper()
	w := newWard(budget)
	w.check(t, what, spill.Sort(w.stream(rows), keys, budget, w, w))
	return w
}

func onceOf(t *testing.T, what string, rows [][]api.Value, budget int) *ward {
	t.Helper()
	w := newWard(budget)
	w.check(t, what, spill.Once(w.stream(rows), budget, w, w))
	return w
}

func TestSortByWholeRows(t *testing.T) {
	rows := [][]api.Value{
		row(text("")), row(num(3), num(1)), row(), row(num(3)), row(null, null), row(num(-4)),
		row(text("a\x00")), row(null), row(num(3), null), row(text("a")), row(num(math.MinInt64)), row(),
	}
	want := [][]api.Value{
		row(), row(), row(null), row(null, null), row(num(math.MinInt64)), row(num(-4)), row(num(3)), row(num(3), null),
		row(num(3), num(1)), row(text("")), row(text("a")), row(text("a\x00")),
	}
	for _, budget := range []int{4, 5, 11, 12, 13, 65536} {
		w := sortedBy(t, "Sort with "+strconv.Itoa(budget), rows, nil, budget)
		wantRows(t, "Sort with "+strconv.Itoa(budget), w.out, want)
	}
}

func TestSortByKeys(t *testing.T) {
	rows := [][]api.Value{ints(1, 5), ints(2, 5), ints(1, 7, 0), ints(3), row(num(0), text("x")), row(num(4), null), row(), ints(1, 7)}
	for what, c := range map[string]struct {
		keys []api.Key
		want [][]api.Value
	}{
		"the second column, rising": {
			[]api.Key{{Col: 1}},
			[][]api.Value{row(), ints(3), row(num(4), null), ints(1, 5), ints(2, 5), ints(1, 7), ints(1, 7, 0), row(num(0), text("x"))},
		},
		"the second column, the other way": {
			[]api.Key{{Col: 1, Desc: true}},
			[][]api.Value{row(num(0), text("x")), ints(1, 7), ints(1, 7, 0), ints(1, 5), ints(2, 5), row(), ints(3), row(num(4), null)},
		},
		"two columns": {
			[]api.Key{{Col: 1, Desc: true}, {Col: 0, Desc: true}},
			[][]api.Value{row(num(0), text("x")), ints(1, 7), ints(1, 7, 0), ints(2, 5), ints(1, 5), row(num(4), null), ints(3), row()},
		},
		"a column that no row has": {
			[]api.Key{{Col: math.MaxInt, Desc: true}, {Col: 2, Desc: true}},
			[][]api.Value{ints(1, 7, 0), row(), row(num(0), text("x")), ints(1, 5), ints(1, 7), ints(2, 5), ints(3), row(num(4), null)},
		},
	} {
		for budget := 4; budget < 10; budget++ {
			wantRows(t, what, sortedBy(t, what, rows, c.keys, budget).out, c.want)
		}
	}
}

func TestSortAtRandom(t *testing.T) {
	r := rand.New(rand.NewSource(1))
	for range 1500 {
		n, budget := r.Intn(200), 4+r.Intn(20)
		rows := manyRows(r, n, 4, 1+r.Intn(30))
		var keys []api.Key
		for _, c := range r.Perm(5)[:r.Intn(5)] {
			keys = append(keys, api.Key{Col: c, Desc: r.Intn(2) == 0})
		}
		w := sortedBy(t, "Sort", rows, keys, budget)
		wantRows(t, "Sort", w.out, modelSort(rows, keys))
		if w.puts > mostPuts(n, budget) {
			t.Errorf("%d rows with budget %d: %d Puts", n, budget, w.puts)
		}
	}
}

// inSomeOrders: the rows rising, falling, and in no order.
func inSomeOrders(rows [][]api.Value) [][][]api.Value {
	falling, mixed := slices.Clone(rows), slices.Clone(rows)
	slices.Reverse(falling)
	rand.New(rand.NewSource(2)).Shuffle(len(mixed), func(i, k int) { mixed[i], mixed[k] = mixed[k], mixed[i] })
	return [][][]api.Value{rows, falling, mixed}
}

func TestPutsOfSort(t *testing.T) {
	for _, budget := range []int{4, 5, 6, 10} {
		for n := range 400 {
			for _, rows := range inSomeOrders(counted(n)) {
				w := sortedBy(t, "Sort", rows, nil, budget)
				wantRows(t, "Sort", w.out, counted(n))
				if w.puts > mostPuts(n, budget) {
					t.Errorf("%d rows with budget %d: %d Puts, more than %d", n, budget, w.puts, mostPuts(n, budget))
				}
				if n < budget && w.news != 0 {
					t.Errorf("%d rows with budget %d: %d runs", n, budget, w.news)
				}
			}
		}
	}
}

// At the powers of budget - 1, and one beside them, the bound is as tight as it
// gets.
func TestPutsAtTheBounds(t *testing.T) {
	for _, budget := range []int{4, 5, 8, 17, 100} {
		for power := budget - 1; power < 20000; power *= budget - 1 {
			for n := power - 1; n <= power+2; n++ {
				rows := inSomeOrders(counted(n))[2]
				w := sortedBy(t, "Sort", rows, nil, budget)
				if w.puts > mostPuts(n, budget) || len(w.out) != n {
					t.Errorf("%d rows with budget %d: %d Puts, more than %d", n, budget, w.puts, mostPuts(n, budget))
				}
				if once := onceOf(t, "Once", rows, budget); once.puts > w.puts || len(once.out) != n {
					t.Errorf("%d rows with budget %d: %d Puts of Once, %d of Sort", n, budget, once.puts, w.puts)
				}
			}
		}
	}
}

// Runs of 4, 4, 4, 4 and 1 rows, of which 3 can be merged at once: the shortest
// ones are merged first, and no run stays behind its last row.
func TestShortestRunsFirst(t *testing.T) {
	w := sortedBy(t, "Sort", inSomeOrders(counted(17))[2], nil, 4)
	if w.puts > 17+1+4+4 {
		t.Errorf("%d Puts", w.puts)
	}
	if w.together > 6 {
		t.Errorf("%d runs at a time", w.together)
	}
	if w := sortedBy(t, "Sort", counted(4000), nil, 4); w.together > 1001 {
		t.Errorf("%d runs at a time", w.together)
	}
}

func TestGreatestBudget(t *testing.T) {
	for _, n := range []int{api.MaxBudget - 1, api.MaxBudget, 3*api.MaxBudget + 1} {
		rows := inSomeOrders(counted(n))[2]
		w := sortedBy(t, "Sort", rows, []api.Key{{Col: 0}}, api.MaxBudget)
		wantRows(t, "Sort of "+strconv.Itoa(n), w.out, counted(n))
		if w.puts > mostPuts(n, api.MaxBudget) {
			t.Errorf("%d rows: %d Puts", n, w.puts)
		}
	}
}

func TestOnce(t *testing.T) {
	rows := [][]api.Value{
		ints(2), ints(1), ints(2), row(num(2), null), row(), row(text("2")), ints(2), row(null), row(), row(num(2), null), ints(1), ints(1),
	}
	want := [][]api.Value{row(), row(null), ints(1), ints(2), row(num(2), null), row(text("2"))}
	for budget := 4; budget < 15; budget++ {
		wantRows(t, "Once", onceOf(t, "Once", rows, budget).out, want)
	}
	wantRows(t, "Once of none", onceOf(t, "Once", nil, 4).out, nil)
}

func TestOnceAtRandom(t *testing.T) {
	r := rand.New(rand.NewSource(3))
	for range 2000 {
		n, budget := r.Intn(300), 4+r.Intn(12)
		rows := manyRows(r, n, 2, 1+r.Intn(60))
		w := onceOf(t, "Once", rows, budget)
		wantRows(t, "Once", w.out, modelOnce(rows))
		if by := sortedBy(t, "Sort", rows, nil, budget); w.puts > by.puts || w.puts > mostPuts(n, budget) {
			t.Errorf("%d rows with budget %d: %d Puts of Once, %d of Sort", n, budget, w.puts, by.puts)
		}
		if n < budget && w.news != 0 {
			t.Errorf("%d rows with budget %d: %d runs", n, budget, w.news)
		}
	}
}

// Rows that stand there often need no run, as long as few of them are unlike.
func TestOnceOfFewUnlikeRows(t *testing.T) {
	var rows [][]api.Value
	for i := range 5000 {
		rows = append(rows, ints(int64(i%50)))
	}
	w := onceOf(t, "Once", rows, 100)
	wantRows(t, "Once", w.out, counted(50))
	if w.news != 0 {
		t.Errorf("%d runs", w.news)
	}
}

func TestSortInAPlainYard(t *testing.T) {
	rows := inSomeOrders(counted(1000))[2]
	for budget := 4; budget < 40; budget++ {
		y := plain.New(0, api.OK)
		e := spill.Sort(y.Stream(rows), []api.Key{{Col: 0, Desc: true}}, budget, y, y)
		falling := inSomeOrders(counted(1000))[1]
		if e != api.OK || y.Wrong || y.Held != 0 || y.Most > budget || y.Left() != 0 || !sameRows(y.Out, falling) {
			t.Errorf("budget %d: %d, held %d, at most %d, left %d, wrong %v", budget, e, y.Held, y.Most, y.Left(), y.Wrong)
		}
	}
}
