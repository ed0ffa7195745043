package run

import (
	"testing"

	"tallyhouse/api"
	"tallyhouse/plain"
	"tallyhouse/plan"
	"tallyhouse/seg"
	"tallyhouse/vec"
)

// shelfOf a table t of two columns, with these numbers, in segments of 7 rows.
func shelfOf(t *testing.T, count int) *plain.Shelf {
	t.Helper()
	var segments []string
	var heads []api.Head
	for from := 0; from < count; from += 7 {
		var rows [][]api.Value
		for i := from; i < min(from+7, count); i++ {
			rows = append(rows, []api.Value{{Kind: api.Int, N: int64(i)}, {Kind: api.Text, S: string(rune('a' + i%5))}})
		}
		segment, _ := seg.Build([]int{api.Int, api.Text}, rows)
		head, e := seg.Head(segment)
		if e != api.OK {
			t.Fatalf("error %d", e)
		}
		segments, heads = append(segments, segment), append(heads, head)
	}
	columns := []api.Column{{Name: "a", Kind: api.Int}, {Name: "b", Kind: api.Text}}
	return &plain.Shelf{Is: []api.Table{{Name: "t", Columns: columns}}, Segments: [][]string{segments}, Heads: [][]api.Head{heads}}
}

// Every flow gives batches of good columns, of the plan's kinds, each with one
// row at least and no more than asked for; and behind the end none.
func TestBatches(t *testing.T) {
	for _, text := range []string{
		"(scan t)",
		"(filter (eq (mod #0 5) 1) (scan t))",
		"(project (#1 (mul #0 2)) (scan t))",
		"(join (le #0 #2) (scan t) (scan t))",
		"(leftjoin (eq #0 (add #2 15)) (scan t) (scan t))",
		"(group (0) ((most 1)) (scan t))",
		"(distinct (project (#1) (scan t)))",
		"(union (scan t) (filter (gt #0 18) (scan t)) (empty (int text)) (scan t))",
		"(top ((desc 1)) 18 1 (scan t))",
		"(window ahead 1 1 () (0) (scan t))",
		"(minus (scan t) (filter #0 (scan t)))",
		"(empty (int text))",
	} {
		p, _ := plan.Parse(text)
		source := shelfOf(t, 20)
		want, e := plan.Check(p, source.Tables())
		if e != api.OK {
			t.Fatalf("%s: error %d", text, e)
		}
		for _, size := range []int{1, 2, 3, 7, 8, 1000} {
			from := newMaker(source, source.Tables(), size).flow(p, nil)
			for range 300 {
				b, e := from.next()
				if e != api.OK || b.count() > size {
					t.Errorf("%s: %d rows, not %d, error %d", text, b.count(), size, e)
				}
				if b.count() == 0 {
					break
				}
				checkBatch(t, text, b, want)
			}
			if b, e := from.next(); e != api.OK || b.count() != 0 {
				t.Errorf("%s: %d rows behind the end, error %d", text, b.count(), e)
			}
		}
	}
}

func checkBatch(t *testing.T, text string, b batch, kinds []int) {
	t.Helper()
	if len(b) != len(kinds) {
		t.Fatalf("%s: %d columns, not %d", text, len(b), len(kinds))
	}
	for i, column := range b {
		if !vec.Good(column) || vec.Len(column) != b.count() || column.Kind != kinds[i] {
			t.Errorf("%s: column %d is %v", text, i, column)
		}
	}
}

// A join does not hold all pairs: no more are made ahead than a batch needs,
// and those of one row.
func TestPairsThatAreHeld(t *testing.T) {
	p, _ := plan.Parse("(join 1 (scan t) (scan t))")
	source := shelfOf(t, 20)
	m := newMaker(source, source.Tables(), 3)
	j := m.join(p)
	for range 100 {
		b, e := j.next()
		if e != api.OK || b.count() != 3 || len(j.store.rows) >= 20 {
			t.Fatalf("%d rows, %d are held, error %d", b.count(), len(j.store.rows), e)
		}
	}
}
