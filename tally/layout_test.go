package tally

import (
	"math/bits"
	"math/rand"
	"slices"
	"strconv"
	"strings"
	"testing"

	"tallyhouse/api"
	"tallyhouse/seg"
)

// wantLaid: each segment has rows, no more than it may, and is told of rightly.
func wantLaid(t *testing.T, m *Machine, name string, rows int) {
	t.Helper()
	for k := range m.tables.Count(name) {
		text, e := m.tables.Read(name, k)
		head, _ := m.tables.Head(name, k)
		wanted, _ := seg.Head(text)
		if e != api.OK || seg.Open(text) != api.OK || seg.Rows(text) < 1 || seg.Rows(text) > m.segment {
			t.Fatalf("segment %d of at most %d rows has %d", k, m.segment, seg.Rows(text))
		}
		if head.Rows != wanted.Rows || !slices.Equal(head.Low, wanted.Low) || !slices.Equal(head.High, wanted.High) || !slices.Equal(head.Nulls, wanted.Nulls) {
			t.Fatalf("segment %d: %v, not %v", k, head, wanted)
		}
	}
	if count := m.tables[name].count(); count != rows {
		t.Fatalf("%d rows, not %d", count, rows)
	}
}

// A machine's segments have at most as many rows as New was told.
func TestSegments(t *testing.T) {
	random := rand.New(rand.NewSource(3))
	for _, segment := range []int{1, 2, 5, 8, api.MaxRows} {
		m, _ := New(segment, 1, api.MinBudget)
		m.Do("(make t ((a int)))")
		rows := 0
		for range 60 {
			count := random.Intn(12)
			m.Do("(add t" + strings.Repeat(" (1)", count) + ")")
			rows += count
			if count = random.Intn(min(rows, 8) + 1); random.Intn(3) == 0 {
				m.Do("(take t" + strings.Repeat(" (1)", count) + ")")
				rows -= count
			}
			wantLaid(t, m, "t", rows)
		}
	}
}

// Rows that come one by one lie in few segments.
func TestSegmentsAreFew(t *testing.T) {
	const segment = 64
	m, _ := New(segment, 1, api.MinBudget)
	m.Do("(make t ((a int)))")
	for i := 1; i <= 1000; i++ {
		m.Do("(add t (" + strconv.Itoa(i) + "))")
		if most := i/segment + bits.Len(segment); m.tables.Count("t") > most {
			t.Fatalf("%d rows in %d segments", i, m.tables.Count("t"))
		}
	}
	wantLaid(t, m, "t", 1000)
}

// The shelf tells of nothing that is not there.
func TestShelfWithoutSegments(t *testing.T) {
	m, _ := New(1, 1, api.MinBudget)
	m.Do("(make t ((a int)))")
	m.Do("(add t (1) (2))")
	for _, c := range []struct {
		table string
		k     int
	}{{"u", 0}, {"t", -1}, {"t", 2}} {
		if head, e := m.tables.Head(c.table, c.k); e != api.ErrAbsent || head.Rows != 0 {
			t.Errorf("Head of %s %d: error %d", c.table, c.k, e)
		}
		if text, e := m.tables.Read(c.table, c.k); e != api.ErrAbsent || text != "" {
			t.Errorf("Read of %s %d: error %d", c.table, c.k, e)
		}
	}
}
