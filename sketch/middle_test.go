package sketch_test

import (
	"fmt"
	"maps"
	"math"
	"math/bits"
	"math/rand"
	"slices"
	"testing"

	"tallyhouse/api"
	"tallyhouse/sketch"
)

// ranked: a sketch, and beside it what has really come to it.
type ranked struct {
	*sketch.Middle
	c     int
	total int64
	times map[int64]int64
}

func newRanked(t *testing.T, c int) *ranked {
	t.Helper()
	m, e := sketch.NewMiddle(c)
	if m == nil || e != api.OK {
		t.Fatalf("NewMiddle(%d): %v %v", c, m, e)
	}
	return &ranked{Middle: m, c: c, times: map[int64]int64{}}
}

func (r *ranked) add(t *testing.T, x int64) {
	t.Helper()
	if e := r.Add(x); e != api.OK {
		t.Fatalf("Add(%d) to %d: %v", x, r.total, e)
	}
	r.total++
	r.times[x]++
}

func (r *ranked) merge(t *testing.T, p *ranked) {
	t.Helper()
	if e := r.Merge(p.Middle); e != api.OK {
		t.Fatalf("Merge of %d to %d: %v", p.total, r.total, e)
	}
	r.total += p.total
	for x, n := range maps.Clone(p.times) {
		r.times[x] += n
	}
}

// asked: the numbers that have come, what is beside them, and the ends.
func (r *ranked) asked() []int64 {
	list := []int64{math.MinInt64, math.MinInt64 + 1, -1, 0, 1, math.MaxInt64 - 1, math.MaxInt64}
	for x := range r.times {
		list = append(list, x)
		if x > math.MinInt64 {
			list = append(list, x-1)
		}
		if x < math.MaxInt64 {
			list = append(list, x+1)
		}
	}
	slices.Sort(list)
	return slices.Compact(list)
}

// check what is told against what has come.
func (r *ranked) check(t *testing.T, what string) {
	t.Helper()
	if r.Total() != r.total {
		t.Fatalf("%s: Total %d, not %d", what, r.Total(), r.total)
	}
	levels := int64(bits.Len64(uint64(r.total / int64(r.c))))
	if size := int64(r.Size()); size > int64(r.c)*(levels+1) || r.total < int64(r.c) && size != r.total {
		t.Fatalf("%s: Size %d of %d, with c %d", what, size, r.total, r.c)
	}
	apart := levels * r.total / int64(r.c)
	var below, lastLow, lastHigh int64
	for _, x := range r.asked() {
		below += r.times[x]
		low, high := r.Rank(x)
		if low < 0 || low > below || high < below || high-low > apart {
			t.Fatalf("%s: Rank(%d) with c %d: %d to %d, but there are %d of %d", what, x, r.c, low, high, below, r.total)
		}
		if low < lastLow || high < lastHigh {
			t.Fatalf("%s: Rank(%d) falls to %d, %d from %d, %d", what, x, low, high, lastLow, lastHigh)
		}
		lastLow, lastHigh = low, high
	}
	if lastLow != r.total || lastHigh != r.total {
		t.Fatalf("%s: Rank of the greatest: %d to %d of %d", what, lastLow, lastHigh, r.total)
	}
}

// told: all that a sketch tells, as a text.
func (r *ranked) told() string {
	out := fmt.Sprint(r.Total(), r.Size())
	for _, x := range r.asked() {
		low, high := r.Rank(x)
		out += fmt.Sprint(" ", x, low, high)
	}
	return out
}

func TestNewMiddle(t *testing.T) {
	for _, c := range []int{0, 1, -1, -2, 3, 1023, 1025, 1026, math.MinInt, math.MaxInt} {
		if m, e := sketch.NewMiddle(c); m != nil || e != api.ErrArg {
			t.Errorf("NewMiddle(%d): %v %v", c, m, e)
		}
	}
	for _, c := range []int{2, 4, 1022, 1024} {
		newRanked(t, c).check(t, "nothing has come")
	}
}

func TestMiddleByHand(t *testing.T) {
	m := newRanked(t, 4)
	for _, x := range []int64{5, -2, 9} {
		m.add(t, x)
	}
	for x, want := range map[int64]int64{-3: 0, -2: 1, 4: 1, 5: 2, 8: 2, 9: 3} {
		if low, high := m.Rank(x); low != want || high != want {
			t.Errorf("Rank(%d): %d %d", x, low, high)
		}
	}
	m.add(t, 7)
	m.check(t, "of four")
	if low, high := m.Rank(6); high-low > 1 || low > 2 || high < 2 {
		t.Errorf("Rank(6): %d %d", low, high)
	}
}

func middleStreams(r *rand.Rand) map[string]func(i int) int64 {
	return map[string]func(i int) int64{
		"rising":          func(i int) int64 { return int64(i) },
		"falling":         func(i int) int64 { return -int64(i) },
		"all the same":    func(i int) int64 { return 4 },
		"the ends":        func(i int) int64 { return []int64{math.MaxInt64, math.MinInt64, 0}[i%3] },
		"the least":       func(i int) int64 { return math.MinInt64 },
		"the greatest":    func(i int) int64 { return math.MaxInt64 },
		"to and fro":      func(i int) int64 { return int64(i) * int64(1-i%2*2) },
		"few unlike":      func(i int) int64 { return int64(r.Intn(4)) },
		"at random":       func(i int) int64 { return int64(r.Intn(1000)) },
		"of any size":     func(i int) int64 { return int64(r.Uint64()) >> r.Intn(64) },
		"block by block":  func(i int) int64 { return int64(i/16*16 - i%16) },
		"outside to in":   func(i int) int64 { return int64(1000-i) * int64(1-i%2*2) },
		"one, then above": func(i int) int64 { return int64(min(1, i/100)) * int64(i) },
	}
}

func TestMiddle(t *testing.T) {
	for _, c := range []int{2, 4, 6, 10, 32, 100} {
		for what, next := range middleStreams(rand.New(rand.NewSource(int64(c)))) {
			m := newRanked(t, c)
			for i := range 400 {
				m.add(t, next(i))
				if i < 70 || i%7 == 0 {
					m.check(t, what)
				}
			}
			m.check(t, what)
		}
	}
}

func TestMiddleOfMany(t *testing.T) {
	r := rand.New(rand.NewSource(2))
	for _, c := range []int{2, 64, 1024} {
		m := newRanked(t, c)
		for i := range 60000 {
			m.add(t, int64(r.Intn(1+r.Intn(3000))))
			if i%10000 == 0 {
				m.check(t, "many")
			}
		}
		m.check(t, "many")
	}
}

func TestMiddleMerged(t *testing.T) {
	for seed := range int64(60) {
		r := rand.New(rand.NewSource(seed))
		c := []int{2, 4, 6, 8, 20, 50}[seed%6]
		all := []*ranked{newRanked(t, c), newRanked(t, c), newRanked(t, c)}
		for range 300 {
			m, p := all[r.Intn(3)], all[r.Intn(3)]
			if r.Intn(10) == 0 && m.total+p.total < 1<<39 {
				before := p.told()
				m.merge(t, p)
				if m != p && p.told() != before {
					t.Fatalf("p has changed: %s\nit was %s", p.told(), before)
				}
				m.check(t, "merged")
				p.check(t, "merged")
				continue
			}
			m.add(t, int64(r.Intn(1+r.Intn(200))))
		}
		for _, m := range all {
			m.check(t, "behind all")
		}
	}
}

// Two of all sizes around the edges of levels, merged.
func TestMiddleMergedOfAllSizes(t *testing.T) {
	for _, c := range []int{2, 4, 6} {
		for a := range 6 * c {
			for b := range 6 * c {
				m, p := newRanked(t, c), newRanked(t, c)
				for i := range a {
					m.add(t, int64(i*7%a))
				}
				for i := range b {
					p.add(t, int64(i*5%b)+int64(a/2))
				}
				m.merge(t, p)
				m.check(t, fmt.Sprintf("%d and %d", a, b))
			}
		}
	}
}

// Many that are one short of a full level, one behind the other.
func TestMiddleMergedNearlyFull(t *testing.T) {
	for _, c := range []int{2, 4, 10, 64} {
		m := newRanked(t, c)
		for i := range 40 {
			p := newRanked(t, c)
			for j := range c - 1 + i%2*c*(1+i) {
				p.add(t, int64(i*31%40+j*j%17))
			}
			m.merge(t, p)
			m.check(t, "nearly full")
		}
	}
}

func TestMiddleMergedShareNothing(t *testing.T) {
	m, p := newRanked(t, 6), newRanked(t, 6)
	for i := range 50 {
		p.add(t, int64(i*11%50))
	}
	m.merge(t, p)
	theirs := p.told()
	for i := range 50 {
		m.add(t, int64(i*3))
	}
	if p.told() != theirs {
		t.Errorf("p tells %s, not %s", p.told(), theirs)
	}
	ours := m.told()
	for i := range 50 {
		p.add(t, -int64(i))
	}
	if m.told() != ours {
		t.Errorf("m tells %s, not %s", m.told(), ours)
	}
	m.check(t, "m")
	p.check(t, "p")
}

func TestMiddleMergedWithNothing(t *testing.T) {
	m, p := newRanked(t, 4), newRanked(t, 4)
	for i := range 30 {
		m.add(t, int64(i*7%30))
	}
	before := m.told()
	m.merge(t, p)
	if m.told() != before {
		t.Errorf("with nothing: %s, not %s", m.told(), before)
	}
	p.merge(t, m)
	p.check(t, "nothing with something")
	m.check(t, "something with nothing")
}

func wantSameRanks(t *testing.T, what string, m *ranked, before string, got, want api.Errno) {
	t.Helper()
	if got != want {
		t.Errorf("%s: %v, not %v", what, got, want)
	}
	if m.told() != before {
		t.Errorf("%s: it tells %s, not %s", what, m.told(), before)
	}
}

// Merged with itself again and again, up to the most there may be.
func TestMiddleAtItsMost(t *testing.T) {
	const most = 1 << 40
	for _, c := range []int{2, 6, 16, 1024} {
		m := newRanked(t, c)
		for i := range 8 {
			m.add(t, int64(i*5%8))
		}
		for m.total < most {
			m.merge(t, m)
			m.check(t, "twice")
		}
		full := m.told()
		wantSameRanks(t, "one more", m, full, m.Add(3), api.ErrLarge)
		wantSameRanks(t, "itself", m, full, m.Merge(m.Middle), api.ErrLarge)
		wantSameRanks(t, "no sketch", m, full, m.Merge(nil), api.ErrArg)
		wantSameRanks(t, "another c", m, full, m.Merge(newRanked(t, c%1024+2).Middle), api.ErrArg)
		one := newRanked(t, c)
		one.add(t, 3)
		wantSameRanks(t, "one more merged", m, full, m.Merge(one.Middle), api.ErrLarge)
		m.merge(t, newRanked(t, c))
		m.check(t, "with nothing")
		none := newRanked(t, c)
		none.merge(t, m)
		none.check(t, "all at once")
	}
}

func TestMiddleOneBelowItsMost(t *testing.T) {
	const most = 1 << 40
	m, p := newRanked(t, 4), newRanked(t, 4)
	p.add(t, 1)
	for m.total+p.total < most {
		m.merge(t, p)
		p.merge(t, p)
	}
	for m.total < most-1 {
		m.add(t, 2)
	}
	m.check(t, "one below")
	before := m.told()
	two := newRanked(t, 4)
	two.add(t, 1)
	two.add(t, 9)
	wantSameRanks(t, "two more", m, before, m.Merge(two.Middle), api.ErrLarge)
	m.add(t, 9)
	m.check(t, "full")
	wantSameRanks(t, "one more", m, m.told(), m.Add(9), api.ErrLarge)
}

func TestMiddleRefuses(t *testing.T) {
	m := newRanked(t, 4)
	for i := range 30 {
		m.add(t, int64(i*7%30))
	}
	before := m.told()
	wantSameRanks(t, "no sketch", m, before, m.Merge(nil), api.ErrArg)
	for _, c := range []int{2, 6, 1024} {
		p := newRanked(t, c)
		p.add(t, 3)
		wantSameRanks(t, "another c", m, before, m.Merge(p.Middle), api.ErrArg)
	}
}

func TestMiddleTellsTheSameAgain(t *testing.T) {
	tell := func() string {
		r := rand.New(rand.NewSource(8))
		m, p := newRanked(t, 6), newRanked(t, 6)
		for range 15 {
			for range 20 {
				m.add(t, int64(r.Intn(100)))
				p.add(t, int64(r.Intn(100)))
			}
			m.merge(t, p)
			p.merge(t, m)
		}
		return m.told() + p.told()
	}
	if a, b := tell(), tell(); a != b {
		t.Errorf("%s\nbut once %s", b, a)
	}
}
