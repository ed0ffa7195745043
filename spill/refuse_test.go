package spill_test

import (
	"fmt"
	"math/rand"
	"slices"
	"testing"

	"tallyhouse/api"
	"tallyhouse/plain"
	"tallyhouse/spill"
)

// calls of the layer, each with rows that need many runs, or none.
func calls() map[string]func(w *ward, budget int) api.Errno {
	r := rand.New(rand.NewSource(6))
	many, few := manyRows(r, 60, 2, 9), manyRows(r, 3, 2, 9)
	return map[string]func(w *ward, budget int) api.Errno{
		"Sort": func(w *ward, budget int) api.Errno {
			return spill.Sort(w.stream(many), []api.Key{{Col: 1, Desc: true}}, budget, w, w)
		},
		"Sort of few": func(w *ward, budget int) api.Errno {
			return spill.Sort(w.stream(few), nil, budget, w, w)
		},
		"Once": func(w *ward, budget int) api.Errno { return spill.Once(w.stream(many), budget, w, w) },
		"Pairs": func(w *ward, budget int) api.Errno {
			return spill.Pairs(w.stream(many), w.stream(many), []int{0}, []int{1}, budget, w, w)
		},
		"Pairs of few": func(w *ward, budget int) api.Errno {
			return spill.Pairs(w.stream(few), w.stream(few), nil, nil, budget, w, w)
		},
	}
}

// Each call of anybody is refused in turn; what Drop answers behind that makes
// no difference.
func TestRefusals(t *testing.T) {
	codes := []api.Errno{api.ErrRoom, 77, -1, api.ErrArg}
	for what, call := range calls() {
		for _, budget := range []int{4, 5, 9, 40} {
			for k := 1; ; k++ {
				w := newWard(budget)
				w.refuse, w.code, w.dropCode = k, codes[k%len(codes)], api.Errno(k%3)
				e := call(w, budget)
				w.check(t, fmt.Sprintf("%s with %d, refused at %d", what, budget, k), e)
				if !w.refused {
					break
				}
			}
		}
	}
}

// A Drop that is refused ends it, too; the run counts as dropped.
func TestRefusedDrops(t *testing.T) {
	for what, call := range calls() {
		for _, budget := range []int{4, 5, 9, 40} {
			for k := 1; ; k++ {
				w := newWard(budget)
				w.refuseDrop, w.code, w.dropCode = k, 77, 78
				e := call(w, budget)
				w.check(t, fmt.Sprintf("%s with %d, Drop refused at %d", what, budget, k), e)
				if !w.refused {
					break
				}
			}
		}
	}
}

// What was handed out ahead of a refusal is the beginning of what is handed out
// without one.
func TestHandedOutAheadOfARefusal(t *testing.T) {
	for what, call := range calls() {
		whole := newWard(4)
		call(whole, 4)
		for k := 1; k <= whole.calls; k++ {
			w := newWard(4)
			w.refuse, w.code = k, 77
			call(w, 4)
			if !sameRows(w.out, whole.out[:len(w.out)]) {
				t.Errorf("%s, refused at %d: %v", what, k, w.out)
			}
		}
	}
}

func TestBarredArguments(t *testing.T) {
	w := newWard(4)
	in := w.stream(counted(3))
	key := func(columns ...int) []api.Key {
		var keys []api.Key
		for _, c := range columns {
			keys = append(keys, api.Key{Col: c})
		}
		return keys
	}
	for what, e := range map[string]api.Errno{
		"Sort of no stream":        spill.Sort(nil, nil, 4, w, w),
		"Sort without a room":      spill.Sort(in, nil, 4, nil, w),
		"Sort without a sink":      spill.Sort(in, nil, 4, w, nil),
		"Sort with 3":              spill.Sort(in, nil, 3, w, w),
		"Sort with 0":              spill.Sort(in, nil, 0, w, w),
		"Sort with -4":             spill.Sort(in, nil, -4, w, w),
		"Sort with 65537":          spill.Sort(in, nil, 65537, w, w),
		"Sort by -1":               spill.Sort(in, key(-1), 4, w, w),
		"Sort by 0, -1":            spill.Sort(in, key(0, -1), 4, w, w),
		"Sort by 1, 1":             spill.Sort(in, key(1, 1), 4, w, w),
		"Sort by 1, 0, 1 Desc":     spill.Sort(in, append(key(1, 0), api.Key{Col: 1, Desc: true}), 4, w, w),
		"Once of no stream":        spill.Once(nil, 4, w, w),
		"Once without a room":      spill.Once(in, 4, nil, w),
		"Once without a sink":      spill.Once(in, 4, w, nil),
		"Once with 3":              spill.Once(in, 3, w, w),
		"Once with 65537":          spill.Once(in, 65537, w, w),
		"Pairs of no a":            spill.Pairs(nil, in, nil, nil, 4, w, w),
		"Pairs of no b":            spill.Pairs(in, nil, nil, nil, 4, w, w),
		"Pairs without a room":     spill.Pairs(in, in, nil, nil, 4, nil, w),
		"Pairs without a sink":     spill.Pairs(in, in, nil, nil, 4, w, nil),
		"Pairs with 3":             spill.Pairs(in, in, nil, nil, 3, w, w),
		"Pairs with 65537":         spill.Pairs(in, in, nil, nil, 65537, w, w),
		"Pairs of more on left":    spill.Pairs(in, in, []int{0}, nil, 4, w, w),
		"Pairs of more on right":   spill.Pairs(in, in, []int{0}, []int{0, 0}, 4, w, w),
		"Pairs of -1 on left":      spill.Pairs(in, in, []int{0, -1}, []int{0, 0}, 4, w, w),
		"Pairs of -1 on right":     spill.Pairs(in, in, []int{0, 0}, []int{0, -1}, 4, w, w),
		"Pairs of -1 on each side": spill.Pairs(in, in, []int{-1}, []int{-1}, 4, w, w),
	} {
		if e != api.ErrArg {
			t.Errorf("%s: %d", what, e)
		}
	}
	if w.calls != 0 || w.drops != 0 || w.held != 0 || w.wrong != "" {
		t.Errorf("asked: %+v", w)
	}
}

func TestArgumentsAtTheEdge(t *testing.T) {
	for _, budget := range []int{api.MinBudget, api.MaxBudget} {
		for what, call := range calls() {
			w := newWard(budget)
			w.check(t, what, call(w, budget))
		}
	}
}

// What is handed in stays as it is; and what becomes of it while the call
// lasts is not seen.
func TestListsThatAreHandedIn(t *testing.T) {
	rows := manyRows(rand.New(rand.NewSource(7)), 50, 3, 6)
	keys := []api.Key{{Col: 2, Desc: true}, {Col: 0}}
	w := newWard(5)
	w.check(t, "Sort", spill.Sort(w.stream(rows), keys, 5, w, w))
	if !slices.Equal(keys, []api.Key{{Col: 2, Desc: true}, {Col: 0}}) {
		t.Errorf("keys are %v", keys)
	}
	want := modelSort(rows, keys)
	w = newWard(5)
	w.beforeFirst = func() { keys[0], keys[1] = api.Key{Col: -1}, api.Key{Col: -1} }
	w.check(t, "Sort", spill.Sort(w.stream(rows), keys, 5, w, w))
	wantRows(t, "Sort", w.out, want)

	left, right := []int{2, 0}, []int{1, 0}
	w = newWard(5)
	w.check(t, "Pairs", spill.Pairs(w.stream(rows), w.stream(rows), left, right, 5, w, w))
	if !slices.Equal(left, []int{2, 0}) || !slices.Equal(right, []int{1, 0}) {
		t.Errorf("columns are %v and %v", left, right)
	}
	want = modelPairs(rows, rows, left, right)
	w = newWard(5)
	w.beforeFirst = func() { left[0], right[1] = -1, -1 }
	w.check(t, "Pairs", spill.Pairs(w.stream(rows), w.stream(rows), left, right, 5, w, w))
	wantRows(t, "Pairs", w.out, want)
}

// A room that loses rows: what comes out is not said, but it ends.
func TestRoomThatLosesRows(t *testing.T) {
	for what, call := range calls() {
		for lose := 1; lose < 20; lose++ {
			w := newWard(4)
			w.lose = lose
			if e := call(w, 4); e != api.OK || len(w.runs) != 0 {
				t.Errorf("%s: %d", what, e)
			}
		}
	}
}

// Streams that are one: a takes all, and nothing is left for b.
func TestPairsOfOneStream(t *testing.T) {
	y := plain.New(0, api.OK)
	in := y.Stream(counted(9))
	if e := spill.Pairs(in, in, nil, nil, 4, y, y); e != api.OK || len(y.Out) != 0 || y.Held != 0 || y.Left() != 0 {
		t.Errorf("%d, %v", e, y.Out)
	}
}
