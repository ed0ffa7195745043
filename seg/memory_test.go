package seg_test

import (
	"slices"
	"testing"

	"tallyhouse/api"
	"tallyhouse/seg"
)

// spoil all that a list holds, spare room included.
func spoil[T any](list []T, with T) {
	list = list[:cap(list)]
	for i := range list {
		list[i] = with
	}
}

// roomy: as the list, with spare room that a careless append would fill.
func roomy[T any](list []T) []T { return append(make([]T, 0, len(list)+3), list...) }

func shown[T any](list []T) []T { return slices.Clone(list[:cap(list)]) }

func TestRowsAndKindsStayAsTheyAre(t *testing.T) {
	kinds := roomy([]int{api.Int, api.Text})
	rows := roomy([][]api.Value{roomy([]api.Value{{Kind: api.Int, N: 4, S: "left over"}, s("a")}), roomy([]api.Value{{Kind: 7, N: 1}, null})})
	wantKinds, wantRows := shown(kinds), [][]api.Value{}
	for _, row := range rows {
		wantRows = append(wantRows, shown(row))
	}
	text, _ := seg.Build(kinds, rows)
	want := spelled(sample{[]int{api.Int, api.Text}, [][]api.Value{{n(4), s("a")}, {null, null}}})
	if text != want || !slices.Equal(shown(kinds), wantKinds) || len(shown(rows)) != 5 {
		t.Errorf("%q of %v, %v", text, shown(kinds), rows)
	}
	for i, row := range rows {
		if !slices.Equal(shown(row), wantRows[i]) {
			t.Errorf("row %d became %v", i, shown(row))
		}
	}
	spoil(rows[0], s("spoilt"))
	spoil(kinds, 9)
	if text != want {
		t.Error("the segment changed with its rows")
	}
	columns := roomy([]int{1, 0})
	before := shown(columns)
	seg.Read(text, columns)
	if !slices.Equal(shown(columns), before) {
		t.Errorf("the columns became %v", shown(columns))
	}
}

func TestAnswersAreNewMemory(t *testing.T) {
	for _, a := range smallSamples() {
		text := spelled(a)
		spoil(seg.Kinds(text), 9)
		h, _ := seg.Head(text)
		spoil(h.Low, s("spoilt"))
		spoil(h.Nulls, -9)
		if !slices.Equal(h.High, a.head().High) {
			t.Errorf("High changed with Low: %v", h.High)
		}
		spoil(h.High, s("spoilt"))
		v, _ := seg.Column(text, 0)
		spoil(v.Null, true)
		spoil(v.N, -9)
		spoil(v.S, "spoilt")
		again, e := seg.Head(text)
		if w, f := seg.Column(text, 0); e != api.OK || f != api.OK || !slices.Equal(seg.Kinds(text), a.kinds) || !sameHead(again, a.head()) || !sameVec(w, a.column(0)) {
			t.Errorf("what is told of %v changed", a.rows)
		}
	}
}

// Each row that is read may be changed, and appended to, without the others
// being seen to change.
func TestRowsThatAreReadAreTheirOwn(t *testing.T) {
	for _, a := range smallSamples() {
		for _, list := range [][]int{nil, {0}, {0, 0}, allColumns(len(a.kinds))} {
			want := picked(a, list)
			rows, _ := seg.Read(spelled(a), list)
			for i := range rows {
				spoil(append(rows[i], s("more")), s("spoilt"))
				spoil(rows[i], s("spoilt"))
				if !sameRows(rows[i+1:], want[i+1:]) {
					t.Errorf("Read %v of %v: row %d shares memory with a later one", list, a.rows, i)
				}
			}
			if again, _ := seg.Read(spelled(a), list); !sameRows(again, want) {
				t.Errorf("Read %v of %v changed with what was read", list, a.rows)
			}
		}
	}
}

func TestMayLeavesAllAsItIs(t *testing.T) {
	kinds := roomy([]int{api.Int, api.Text})
	h := api.Head{
		Rows:  2,
		Low:   roomy([]api.Value{{Kind: api.Int, N: 3, S: "left over"}, {Kind: 9, N: 1}}),
		High:  roomy([]api.Value{n(8), null}),
		Nulls: roomy([]int{0, 2}),
	}
	parts := roomy([]api.Expr{of(api.Gt, col(0), num(3)), of(api.Not, of(api.IsNull, col(1)))})
	e := api.Expr{Op: api.And, N: 5, V: n(5), Args: parts}
	low, high, nulls, wantKinds := shown(h.Low), shown(h.High), shown(h.Nulls), shown(kinds)
	if may, err := seg.May(kinds, h, e); may || err != api.OK {
		t.Errorf("%v, error %d", may, err)
	}
	if !slices.Equal(shown(h.Low), low) || !slices.Equal(shown(h.High), high) || !slices.Equal(shown(h.Nulls), nulls) || !slices.Equal(shown(kinds), wantKinds) {
		t.Errorf("%v of the kinds %v", h, kinds)
	}
	if e.N != 5 || e.V != n(5) || parts[0].Op != api.Gt || parts[0].Args[1].V != n(3) || parts[1].Args[0].Args[0].N != 1 || shown(parts)[2].Op != 0 {
		t.Errorf("the expression became %v", e)
	}
}
