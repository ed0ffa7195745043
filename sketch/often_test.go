package sketch_test

import (
	"fmt"
	"maps"
	"math"
	"math/rand"
	"slices"
	"testing"

	"tallyhouse/api"
	"tallyhouse/sketch"
)

// watched: a sketch, and beside it what has really come to it.
type watched struct {
	*sketch.Often
	k     int
	total int64
	times map[api.Value]int64
}

func newWatched(t *testing.T, k int) *watched {
	t.Helper()
	o, e := sketch.NewOften(k)
	if o == nil || e != api.OK {
		t.Fatalf("NewOften(%d): %v %v", k, o, e)
	}
	return &watched{Often: o, k: k, times: map[api.Value]int64{}}
}

func (w *watched) add(t *testing.T, v api.Value, n int64) {
	t.Helper()
	if e := w.Add(v, n); e != api.OK {
		t.Fatalf("Add(%v, %d) to %d: %v", v, n, w.total, e)
	}
	w.total += n
	w.times[v] += n
}

func (w *watched) merge(t *testing.T, p *watched) {
	t.Helper()
	if e := w.Merge(p.Often); e != api.OK {
		t.Fatalf("Merge of %d to %d: %v", p.total, w.total, e)
	}
	w.total += p.total
	for v, n := range maps.Clone(p.times) {
		w.times[v] += n
	}
}

// check what is told against what has come.
func (w *watched) check(t *testing.T, what string) {
	t.Helper()
	if w.Total() != w.total {
		t.Fatalf("%s: Total %d, not %d", what, w.Total(), w.total)
	}
	for v := range w.times {
		w.checkTell(t, what, v)
	}
	for _, v := range []api.Value{text("a stranger"), num(math.MinInt64), num(math.MaxInt64), text("")} {
		w.checkTell(t, what, v)
	}
	w.checkAll(t, what)
}

func (w *watched) checkTell(t *testing.T, what string, v api.Value) {
	t.Helper()
	low, high := w.Tell(v)
	if times := w.times[v]; low < 0 || low > times || high < times || high-low > w.total/int64(w.k+1) {
		t.Fatalf("%s: Tell(%v) with k %d: %d to %d, but it has come %d of %d times", what, v, w.k, low, high, times, w.total)
	}
}

func (w *watched) checkAll(t *testing.T, what string) {
	t.Helper()
	all := w.All()
	if len(all) > w.k {
		t.Fatalf("%s: %d values, with k %d", what, len(all), w.k)
	}
	among := map[api.Value]bool{}
	for i, f := range all {
		among[f.Value] = true
		if i > 0 && !lessValue(all[i-1].Value, f.Value) {
			t.Fatalf("%s: All is not rising: %v", what, all)
		}
		if low, high := w.Tell(f.Value); low != f.Low || high != f.High || low <= 0 {
			t.Fatalf("%s: All says %v, Tell %d to %d", what, f, low, high)
		}
	}
	for v, n := range w.times {
		if n > w.total/int64(w.k+1) && !among[v] {
			t.Fatalf("%s: %v has come %d of %d times, and is not among %v", what, v, n, w.total, all)
		}
	}
}

// told: all that a sketch tells, as a text.
func (w *watched) told() string {
	var values []api.Value
	for v := range w.times {
		values = append(values, v)
	}
	slices.SortFunc(values, func(a, b api.Value) int {
		if lessValue(a, b) {
			return -1
		}
		return 1
	})
	out := fmt.Sprint(w.Total(), w.All())
	for _, v := range append(values, text("a stranger")) {
		low, high := w.Tell(v)
		out += fmt.Sprint(" ", v, low, high)
	}
	return out
}

func TestNewOften(t *testing.T) {
	for _, k := range []int{0, -1, 1025, math.MinInt, math.MaxInt} {
		if o, e := sketch.NewOften(k); o != nil || e != api.ErrArg {
			t.Errorf("NewOften(%d): %v %v", k, o, e)
		}
	}
	for _, k := range []int{1, 2, 1023, 1024} {
		newWatched(t, k).check(t, "nothing has come")
	}
}

func TestOftenByHand(t *testing.T) {
	o := newWatched(t, 2)
	for _, v := range []api.Value{num(5), num(5), num(5), text("a"), num(7), num(5)} {
		o.add(t, v, 1)
		o.check(t, "by hand")
	}
	low, high := o.Tell(num(5))
	if low < 2 || low > 4 || high < 4 || high > 6 {
		t.Errorf("Tell(5): %d %d", low, high)
	}
	if all := o.All(); len(all) == 0 || all[0].Value != num(5) {
		t.Errorf("All: %v", all)
	}
}

// As long as no more than k have come, both bounds are how often.
func TestOftenIsExactOfFew(t *testing.T) {
	o := newWatched(t, 9)
	for i := range 9 {
		o.add(t, mixed(i), 1)
		o.check(t, "few")
	}
	for i := range 9 {
		if low, high := o.Tell(mixed(i)); low != 1 || high != 1 {
			t.Errorf("Tell: %d %d", low, high)
		}
	}
	if all := o.All(); len(all) != 9 {
		t.Errorf("All: %v", all)
	}
}

// streams of values: each answers the i-th one and how often it comes.
func oftenStreams(r *rand.Rand, k int) map[string]func(i int) (api.Value, int64) {
	return map[string]func(i int) (api.Value, int64){
		"one alone":         func(i int) (api.Value, int64) { return num(3), 1 },
		"all unlike":        func(i int) (api.Value, int64) { return num(int64(i)), 1 },
		"in turn, k":        func(i int) (api.Value, int64) { return mixed(i % k), 1 },
		"in turn, k + 1":    func(i int) (api.Value, int64) { return mixed(i % (k + 1)), 1 },
		"in turn, 2k + 3":   func(i int) (api.Value, int64) { return mixed(i % (2*k + 3)), 1 },
		"one often":         func(i int) (api.Value, int64) { return mixed((i % 3) * i), 1 },
		"one block by one":  func(i int) (api.Value, int64) { return mixed(i / 7), 1 },
		"often, then never": func(i int) (api.Value, int64) { return mixed(min(i, 50) + i/50*i), 1 },
		"at random":         func(i int) (api.Value, int64) { return mixed(r.Intn(30)), 1 },
		"skewed":            func(i int) (api.Value, int64) { return mixed(r.Intn(1 + r.Intn(1+r.Intn(100)))), 1 },
		"some at a time":    func(i int) (api.Value, int64) { return mixed(r.Intn(20)), int64(r.Intn(5)) },
		"much, then little": func(i int) (api.Value, int64) { return mixed(i), int64(max(1, 1000-100*i)) },
		"more and more":     func(i int) (api.Value, int64) { return mixed(i % (k + 2)), int64(i * i) },
		"of any size":       func(i int) (api.Value, int64) { return mixed(r.Intn(15)), int64(1) << r.Intn(50) },
	}
}

func TestOften(t *testing.T) {
	for _, k := range []int{1, 2, 3, 5, 8, 40} {
		for what, next := range oftenStreams(rand.New(rand.NewSource(int64(k))), k) {
			o := newWatched(t, k)
			for i := range 300 {
				v, n := next(i)
				o.add(t, v, n)
				o.check(t, what)
			}
		}
	}
}

func TestOftenOfManyCounters(t *testing.T) {
	r := rand.New(rand.NewSource(3))
	for _, k := range []int{1000, 1024} {
		o := newWatched(t, k)
		for i := range 20000 {
			o.add(t, num(int64(r.Intn(1+r.Intn(5000)))), int64(1+r.Intn(3)))
			if i%2000 == 0 {
				o.check(t, "many")
			}
		}
		o.check(t, "many")
		if len(o.All()) == 0 {
			t.Error("nothing is often")
		}
	}
}

// Several sketches, to which values come, and which are merged, each with each,
// themselves among them.
func TestOftenMerged(t *testing.T) {
	for seed := range int64(60) {
		r := rand.New(rand.NewSource(seed))
		k := []int{1, 2, 3, 4, 7, 20}[seed%6]
		all := []*watched{newWatched(t, k), newWatched(t, k), newWatched(t, k)}
		for range 200 {
			o, p := all[r.Intn(3)], all[r.Intn(3)]
			if r.Intn(10) == 0 && o.total+p.total < 1<<60 {
				before := p.told()
				o.merge(t, p)
				if o != p && p.told() != before {
					t.Fatalf("p has changed: %s\nit was %s", p.told(), before)
				}
				o.check(t, "merged")
				p.check(t, "merged")
				continue
			}
			o.add(t, mixed(r.Intn(1+r.Intn(4*k))), int64(1+r.Intn(1+r.Intn(9))))
		}
		for _, o := range all {
			o.check(t, "behind all")
		}
	}
}

// What one of two that were merged is told later is not seen in the other.
func TestOftenMergedShareNothing(t *testing.T) {
	o, p := newWatched(t, 4), newWatched(t, 4)
	for i := range 20 {
		p.add(t, mixed(i%6), int64(i))
	}
	o.merge(t, p)
	theirs := p.told()
	for i := range 20 {
		o.add(t, mixed(i%6), 3)
	}
	if p.told() != theirs {
		t.Errorf("p tells %s, not %s", p.told(), theirs)
	}
	ours := o.told()
	for i := range 20 {
		p.add(t, mixed(i%5), 2)
	}
	if o.told() != ours {
		t.Errorf("o tells %s, not %s", o.told(), ours)
	}
	o.check(t, "o")
	p.check(t, "p")
}

func TestOftenMergedWithNothing(t *testing.T) {
	o, p := newWatched(t, 3), newWatched(t, 3)
	for i := range 30 {
		o.add(t, mixed(i%5), int64(i%4))
	}
	before := o.told()
	o.merge(t, p)
	if o.told() != before {
		t.Errorf("with nothing: %s, not %s", o.told(), before)
	}
	p.merge(t, o)
	p.check(t, "nothing with something")
}

// What comes from k sketches, each full of values that the others don't have.
func TestOftenMergedUnlike(t *testing.T) {
	for _, k := range []int{1, 2, 5, 30} {
		o := newWatched(t, k)
		for i := range 20 {
			p := newWatched(t, k)
			for j := range 2 * k {
				p.add(t, num(int64(i*k+j)), int64(1+j*i))
			}
			o.merge(t, p)
			o.check(t, "unlike")
		}
	}
}

func TestOftenCountsCleanValues(t *testing.T) {
	o, _ := sketch.NewOften(5)
	dirty := []api.Value{
		{Kind: 9, N: 4, S: "x"}, {Kind: -1}, {Kind: api.Null, N: 2}, {Kind: api.Null, S: "y"},
		{Kind: api.Int, N: 4, S: "x"}, {Kind: api.Int, N: 4, S: "z"}, {Kind: api.Int, N: 4},
		{Kind: api.Text, N: 4, S: "x"}, {Kind: api.Text, S: "x"},
	}
	for _, v := range dirty {
		o.Add(v, 2)
	}
	want := []api.Found{{Value: null, Low: 8, High: 8}, {Value: num(4), Low: 6, High: 6}, {Value: text("x"), Low: 4, High: 4}}
	if got := o.All(); !slices.Equal(got, want) {
		t.Errorf("All: %v", got)
	}
	for i, v := range dirty {
		times := []int64{8, 8, 8, 8, 6, 6, 6, 4, 4}[i]
		if low, high := o.Tell(v); low != times || high != times {
			t.Errorf("Tell(%v): %d %d", v, low, high)
		}
	}
}

// A value that comes 0 times has not come.
func TestOftenOfNone(t *testing.T) {
	o := newWatched(t, 2)
	for i := range 5 {
		o.add(t, num(int64(i)), 0)
		o.check(t, "none")
	}
	if all := o.All(); len(all) != 0 || o.Total() != 0 {
		t.Errorf("All: %v", all)
	}
	o.add(t, num(1), 4)
	o.add(t, num(2), 4)
	before := o.told()
	o.add(t, num(3), 0)
	o.add(t, num(1), 0)
	if o.told() != before {
		t.Errorf("it tells %s, not %s", o.told(), before)
	}
}

func wantSame(t *testing.T, what string, o *watched, before string, got, want api.Errno) {
	t.Helper()
	if got != want {
		t.Errorf("%s: %v, not %v", what, got, want)
	}
	if o.told() != before {
		t.Errorf("%s: it tells %s, not %s", what, o.told(), before)
	}
}

func TestOftenRefuses(t *testing.T) {
	const most = 1 << 62
	o, other := newWatched(t, 3), newWatched(t, 4)
	for i := range 7 {
		o.add(t, mixed(i), int64(1+i))
	}
	before := o.told()
	wantSame(t, "below 0", o, before, o.Add(mixed(1), -1), api.ErrArg)
	wantSame(t, "far below 0", o, before, o.Add(mixed(1), math.MinInt64), api.ErrArg)
	wantSame(t, "too much", o, before, o.Add(mixed(1), most-o.total+1), api.ErrLarge)
	wantSame(t, "too much of another", o, before, o.Add(mixed(99), most-o.total+1), api.ErrLarge)
	wantSame(t, "far too much", o, before, o.Add(mixed(1), math.MaxInt64), api.ErrLarge)
	wantSame(t, "no sketch", o, before, o.Merge(nil), api.ErrArg)
	wantSame(t, "another k", o, before, o.Merge(other.Often), api.ErrArg)
	p := newWatched(t, 3)
	p.add(t, mixed(3), most-o.total+1)
	wantSame(t, "too much in all", o, before, o.Merge(p.Often), api.ErrLarge)
	theirs := p.told()
	wantSame(t, "itself", p, theirs, p.Merge(p.Often), api.ErrLarge)
}

func TestOftenAtItsMost(t *testing.T) {
	const most = 1 << 62
	o := newWatched(t, 3)
	o.add(t, num(1), most-10)
	o.add(t, num(2), 4)
	o.add(t, num(3), 3)
	o.add(t, num(4), 3)
	o.check(t, "full")
	o.add(t, num(5), 0)
	full := o.told()
	wantSame(t, "one more", o, full, o.Add(num(1), 1), api.ErrLarge)
	wantSame(t, "below 0", o, full, o.Add(num(1), -1), api.ErrArg)
	wantSame(t, "itself", o, full, o.Merge(o.Often), api.ErrLarge)
	other := newWatched(t, 2)
	other.add(t, num(1), most)
	wantSame(t, "another k", o, full, o.Merge(other.Often), api.ErrArg)
	none := newWatched(t, 3)
	o.merge(t, none)
	none.merge(t, o)
	none.check(t, "all at once")
	half := newWatched(t, 1)
	for i := range int64(4) {
		half.add(t, num(i), most/8)
	}
	half.merge(t, half)
	half.check(t, "twice the half")
	wantSame(t, "four times", half, half.told(), half.Merge(half.Often), api.ErrLarge)
}

// The same calls in the same order tell the same, however a map is gone
// through.
func TestOftenTellsTheSameAgain(t *testing.T) {
	tell := func() string {
		r := rand.New(rand.NewSource(8))
		o, p := newWatched(t, 6), newWatched(t, 6)
		for range 40 {
			for range 15 {
				o.add(t, mixed(r.Intn(40)), int64(r.Intn(3)))
				p.add(t, mixed(r.Intn(20)), int64(r.Intn(3)))
			}
			o.merge(t, p)
			if p.total > 1<<40 {
				break
			}
			p.merge(t, o)
		}
		return o.told() + p.told()
	}
	want := tell()
	for range 20 {
		if got := tell(); got != want {
			t.Fatalf("%s\nbut once %s", got, want)
		}
	}
}

func TestOftenAnswersNewMemory(t *testing.T) {
	o := newWatched(t, 5)
	for i := range 5 {
		o.add(t, mixed(i), int64(1+i))
	}
	before := o.told()
	all := o.All()
	all = append(all[:cap(all)], api.Found{Value: num(77), Low: 7, High: 7})
	for i := range all {
		all[i] = api.Found{Value: text("spoilt"), Low: -1, High: -1}
	}
	if o.told() != before {
		t.Errorf("it tells %s, not %s", o.told(), before)
	}
}
