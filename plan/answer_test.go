package plan_test

import (
	"math"
	"runtime"
	"slices"
	"strconv"
	"strings"
	"testing"

	"tallyhouse/api"
	"tallyhouse/plan"
)

func TestTheDocumentsExample(t *testing.T) {
	answers(t, "(group (0) ((countall 0) (count 1)) (scan t))", example(), "[1 2 2][2 1 0]")
	answers(t, `(filter (ne #1 "y") (scan t))`, example(), `[1 "x"][1 "x"]`)
	answers(t, "(top (0) 1 1 (scan t))", example(), `[1 "x"]`)
}

// letters: a table of numbers and texts with nulls, and rows that are alike.
func letters() []api.Table {
	return []api.Table{
		table("l", "it",
			[]api.Value{n(3), s("b")}, []api.Value{null, s("a")}, []api.Value{n(3), null}, []api.Value{n(-1), s("a")},
			[]api.Value{n(3), s("b")}, []api.Value{null, null}, []api.Value{n(3), s("a")}),
		table("m", "i", []api.Value{n(3)}, []api.Value{null}, []api.Value{n(3)}, []api.Value{n(4)}),
		table("none", "it"),
	}
}

func TestScanFilterProject(t *testing.T) {
	answers(t, "(scan l)", letters(), `[- -][- "a"][-1 "a"][3 -][3 "a"][3 "b"][3 "b"]`)
	answers(t, "(scan none)", letters(), "")
	answers(t, "(empty (int text))", letters(), "")
	answers(t, "(filter #0 (scan l))", letters(), `[-1 "a"][3 -][3 "a"][3 "b"][3 "b"]`)
	answers(t, "(filter null (scan l))", letters(), "")
	answers(t, "(filter 0 (scan l))", letters(), "")
	answers(t, "(filter -5 (scan m))", letters(), "[-][3][3][4]")
	answers(t, `(filter (or (lt #0 0) (eq #1 "b")) (scan l))`, letters(), `[-1 "a"][3 "b"][3 "b"]`)
	answers(t, `(filter (not (isnull #1)) (filter (isnull #0) (scan l)))`, letters(), `[- "a"]`)
	answers(t, `(project (#1 #0 #0) (filter (gt #0 0) (scan l)))`, letters(), `[- 3 3]["a" 3 3]["b" 3 3]["b" 3 3]`)
	answers(t, `(project (null (mul #0 2) "x") (scan m))`, letters(), `[- - "x"][- 6 "x"][- 6 "x"][- 8 "x"]`)
	answers(t, `(project ((div 1 (sub #0 3))) (scan m))`, letters(), `[-][-][-][1]`)
	answers(t, `(project ((cat #1 #1)) (filter (eq #0 -1) (scan l)))`, letters(), `["aa"]`)
}

func TestJoins(t *testing.T) {
	answers(t, "(join (eq #0 #2) (scan l) (scan m))", letters(), `[3 - 3][3 - 3][3 "a" 3][3 "a" 3][3 "b" 3][3 "b" 3][3 "b" 3][3 "b" 3]`)
	answers(t, "(join (eq #1 #0) (scan m) (scan m))", letters(), `[3 3][3 3][3 3][3 3][4 4]`)
	answers(t, "(leftjoin (eq #1 #0) (scan m) (scan m))", letters(), `[- -][3 3][3 3][3 3][3 3][4 4]`)
	answers(t, "(leftjoin (eq #0 #1) (scan m) (scan l))", letters(), `[- - -][3 3 -][3 3 -][3 3 "a"][3 3 "a"][3 3 "b"][3 3 "b"][3 3 "b"][3 3 "b"][4 - -]`)
	answers(t, "(leftjoin (eq #0 #2) (filter (isnull #1) (scan l)) (scan m))", letters(), `[- - -][3 - 3][3 - 3]`)
	answers(t, "(join 1 (scan m) (filter (eq #0 4) (scan m)))", letters(), `[- 4][3 4][3 4][4 4]`)
	answers(t, "(join (lt #0 #1) (scan m) (scan m))", letters(), `[3 4][3 4]`)
	answers(t, "(leftjoin (lt #0 #1) (scan m) (scan m))", letters(), `[- -][3 4][3 4][4 -]`)
	answers(t, "(leftjoin (and (eq #0 #1) (lt #0 4)) (scan m) (scan m))", letters(), `[- -][3 3][3 3][3 3][3 3][4 -]`)
	answers(t, "(leftjoin 0 (scan m) (scan l))", letters(), `[- - -][3 - -][3 - -][4 - -]`)
	answers(t, "(leftjoin null (filter (eq #0 4) (scan m)) (scan m))", letters(), `[4 -]`)
	answers(t, "(leftjoin 1 (filter (eq #0 4) (scan m)) (scan none))", letters(), `[4 - -]`)
	answers(t, "(leftjoin 1 (filter (eq #0 4) (scan m)) (empty (text)))", letters(), `[4 -]`)
	answers(t, "(leftjoin 1 (scan none) (scan m))", letters(), ``)
	answers(t, "(join 1 (scan none) (scan m))", letters(), ``)
	answers(t, "(join 1 (scan m) (scan none))", letters(), ``)
	answers(t, "(join (eq (add #0 1) #1) (scan m) (scan m))", letters(), `[3 4][3 4]`)
	answers(t, "(join (eq (add #0 #1) 7) (scan m) (scan m))", letters(), `[3 4][3 4][4 3][4 3]`)
	answers(t, "(join (eq (add #0 #1) #0) (scan m) (scan m))", letters(), ``)
	answers(t, "(join (eq #1 4) (scan m) (scan m))", letters(), `[- 4][3 4][3 4][4 4]`)
	answers(t, "(join (eq #0 #0) (scan m) (filter (eq #0 4) (scan m)))", letters(), `[3 4][3 4][4 4]`)
	answers(t, "(join (or (eq #0 #1) (eq #0 4)) (scan m) (scan m))", letters(), `[3 3][3 3][3 3][3 3][4 -][4 3][4 3][4 4]`)
}

// sides: joins whose lesser side is the one, the other, or neither.
func TestJoinsWhicheverSideIsLess(t *testing.T) {
	few := table("few", "i", []api.Value{n(2)}, []api.Value{n(9)})
	lots := table("lots", "i")
	for i := range 30 {
		lots.Rows = append(lots.Rows, []api.Value{n(int64(i % 10))})
	}
	tables := []api.Table{few, lots}
	answers(t, "(join (and (eq #0 #1) (lt #0 9)) (scan few) (scan lots))", tables, strings.Repeat("[2 2]", 3))
	answers(t, "(join (and (eq #0 #1) (lt #1 9)) (scan lots) (scan few))", tables, strings.Repeat("[2 2]", 3))
	answers(t, "(leftjoin (and (eq #0 #1) (lt #0 9)) (scan few) (scan lots))", tables, strings.Repeat("[2 2]", 3)+"[9 -]")
	answers(t, "(leftjoin (eq #0 #1) (filter (lt #0 3) (scan lots)) (scan few))", tables, "[0 -][0 -][0 -][1 -][1 -][1 -]"+strings.Repeat("[2 2]", 3))
	answers(t, "(leftjoin (gt #0 (add #1 6)) (scan few) (scan lots))", tables, "[2 -][9 0][9 0][9 0][9 1][9 1][9 1][9 2][9 2][9 2]")
}

func TestGroups(t *testing.T) {
	answers(t, "(group (0) () (scan one))", []api.Table{table("one", "i", []api.Value{n(1)})}, `[1]`)
	answers(t, "(group (0) () (scan l))", letters(), `[-][-1][3]`)
	answers(t, "(group (1) ((countall 0) (count 0) (sum 0)) (scan l))", letters(), `[- 2 1 3]["a" 3 2 2]["b" 2 2 6]`)
	answers(t, "(group (1 0) ((countall 0)) (scan l))", letters(), `[- - 1][- 3 1]["a" - 1]["a" -1 1]["a" 3 1]["b" 3 2]`)
	answers(t, "(group (0) ((least 1) (most 1) (counteach 1) (count 1)) (scan l))", letters(), `[- "a" "a" 1 1][-1 "a" "a" 1 1][3 "a" "b" 2 3]`)
	answers(t, "(group () ((least 0) (most 0) (counteach 0) (count 0) (countall 0)) (scan l))", letters(), `[-1 3 2 5 7]`)
	answers(t, "(group () ((countall 0) (count 0) (sum 0) (least 1) (most 1) (counteach 1)) (scan none))", letters(), `[0 0 - - - 0]`)
	answers(t, "(group (0) ((countall 0)) (scan none))", letters(), ``)
	answers(t, "(group () ((sum 0) (least 0) (most 0) (counteach 0)) (filter (isnull #0) (scan l)))", letters(), `[- - - 0]`)
	answers(t, "(group (0) ((sum 0) (sum 0) (least 0)) (scan m))", letters(), `[- - - -][3 6 6 3][4 4 4 4]`)
	answers(t, "(group () ((least 1) (most 1)) (project (#0 (if (isnull #1) \"\" #1)) (scan l)))", letters(), `["" "b"]`)
}

// column of these numbers, in a table c.
func column(list ...int64) []api.Table {
	c := table("c", "ii")
	for i, x := range list {
		c.Rows = append(c.Rows, []api.Value{n(int64(i)), n(x)})
	}
	return []api.Table{c}
}

func TestSumsAreExact(t *testing.T) {
	const most, least = math.MaxInt64, math.MinInt64
	for _, c := range []struct {
		list []int64
		want string
	}{
		{[]int64{most}, "[9223372036854775807]"},
		{[]int64{least}, "[-9223372036854775808]"},
		{[]int64{most, 1}, "[-]"},
		{[]int64{most, 1, -1}, "[9223372036854775807]"},
		{[]int64{least, -1}, "[-]"},
		{[]int64{least, -1, 1}, "[-9223372036854775808]"},
		{[]int64{most, most, most, least, least, least}, "[-3]"},
		{[]int64{most, least}, "[-1]"},
		{[]int64{most, most, 2}, "[-]"},
		{[]int64{least, least}, "[-]"},
		{[]int64{least, least, most, 1}, "[-9223372036854775808]"},
		{[]int64{most, most, most, most, 4}, "[-]"},
		{[]int64{0}, "[0]"},
		{[]int64{-1, 1}, "[0]"},
		{[]int64{-3, -4}, "[-7]"},
		{nil, "[-]"},
	} {
		answers(t, "(group () ((sum 1)) (scan c))", column(c.list...), c.want)
		answers(t, "(project (#0) (top ((desc 1)) 1 0 (project (#2 #0) (window sumover 1 -1 () (0) (scan c)))))", column(c.list...), c.want[:len(c.want)*min(len(c.list), 1)])
	}
}

func TestSumOverForgetsWhatIsBehind(t *testing.T) {
	const most, least = math.MaxInt64, math.MinInt64
	answers(t, "(project (#2) (window sumover 1 1 () (0) (scan c)))", column(most, most, least, least, 5), "[-][-][-9223372036854775803][-1][9223372036854775807]")
	answers(t, "(project (#0 #2) (window sumover 1 1 () (0) (scan c)))", column(least, 0, -1, 1, 7), "[0 -9223372036854775808][1 -9223372036854775808][2 -1][3 0][4 8]")
	answers(t, "(project (#0 #2) (window sumover 1 0 () (0) (scan c)))", column(5, -6, most), "[0 5][1 -6][2 9223372036854775807]")
	answers(t, "(project (#0 #2) (window sumover 1 2 () (0) (scan c)))", column(1, 10, 100, 1000, 10000), "[0 1][1 11][2 111][3 1110][4 11100]")
	answers(t, "(project (#0 #2) (window sumover 1 9223372036854775807 () (0) (scan c)))", column(1, 10, 100), "[0 1][1 11][2 111]")
	answers(t, "(project (#0 #2) (window sumover 1 -9223372036854775808 () (0) (scan c)))", column(1, 10, 100), "[0 1][1 11][2 111]")
}

func TestDistinctUnionMinus(t *testing.T) {
	answers(t, "(distinct (scan l))", letters(), `[- -][- "a"][-1 "a"][3 -][3 "a"][3 "b"]`)
	answers(t, "(distinct (scan m))", letters(), `[-][3][4]`)
	answers(t, "(distinct (scan none))", letters(), ``)
	answers(t, "(union (scan m) (scan m) (empty (int)))", letters(), `[-][-][3][3][3][3][4][4]`)
	answers(t, "(union (scan m))", letters(), `[-][3][3][4]`)
	answers(t, "(minus (scan m) (distinct (scan m)))", letters(), `[3]`)
	answers(t, "(minus (distinct (scan m)) (scan m))", letters(), ``)
	answers(t, "(minus (union (scan m) (scan m)) (scan m))", letters(), `[-][3][3][4]`)
	answers(t, "(minus (scan m) (empty (int)))", letters(), `[-][3][3][4]`)
	answers(t, "(minus (empty (int)) (scan m))", letters(), ``)
	answers(t, "(minus (scan m) (project (5) (scan m)))", letters(), `[-][3][3][4]`)
	answers(t, "(minus (union (scan m) (filter (eq #0 3) (scan m))) (project (3) (filter (eq #0 4) (scan m))))", letters(), `[-][3][3][3][4]`)
}

func TestTops(t *testing.T) {
	for _, c := range [][2]string{
		{"(top () 2 0 (scan l))", `[- -][- "a"]`},
		{"(top () 2 2 (scan l))", `[-1 "a"][3 -]`},
		{"(top () 2 6 (scan l))", `[3 "b"]`},
		{"(top () 2 7 (scan l))", ``},
		{"(top () 0 0 (scan l))", ``},
		{"(top () 100 5 (scan l))", `[3 "b"][3 "b"]`},
		{"(top () 9223372036854775807 5 (scan l))", `[3 "b"][3 "b"]`},
		{"(top () 9223372036854775807 9223372036854775807 (scan l))", ``},
		{"(top () 1 9223372036854775807 (scan l))", ``},
		{"(top () 9223372036854775807 0 (scan m))", `[-][3][3][4]`},
		{"(top ((desc 0)) 1 0 (scan l))", `[3 -]`},
		{"(top ((desc 0)) 5 4 (scan l))", `[- -][- "a"][-1 "a"]`},
		{"(top ((desc 1)) 3 0 (scan l))", `[- "a"][3 "b"][3 "b"]`},
		{"(top (1) 3 0 (scan l))", `[- -][- "a"][3 -]`},
		{"(top (1 (desc 0)) 1 0 (scan l))", `[3 -]`},
		{"(top ((desc 1) (desc 0)) 3 0 (scan l))", `[3 "a"][3 "b"][3 "b"]`},
		{"(top ((desc 1) 0) 1 2 (scan l))", `[- "a"]`},
		{"(top (0) 1 0 (scan none))", ``},
	} {
		answers(t, c[0], letters(), c[1])
	}
}

func TestTopOfManyRows(t *testing.T) {
	rows := table("r", "ii")
	for i := range int64(10000) {
		rows.Rows = append(rows.Rows, []api.Value{n(i * 7919 % 10007), n(i)})
	}
	for _, c := range []struct{ count, off int }{{1, 0}, {3, 5}, {0, 3}, {1024, 0}, {1000, 25}, {1025, 2}, {3000, 3000}, {9000, 900}, {5, 9998}, {20000, 0}, {5, 10000}} {
		for _, desc := range []bool{false, true} {
			p := top(scan("r"), c.count, c.off, api.Key{Col: 0, Desc: desc})
			order := slices.Clone(rows.Rows)
			slices.SortFunc(order, func(a, b []api.Value) int {
				if desc {
					a, b = b, a
				}
				return int(a[0].N - b[0].N)
			})
			want := order[min(c.off, len(order)):min(c.off+c.count, len(order))]
			want = slices.Clone(want)
			slices.SortFunc(want, func(a, b []api.Value) int { return int(a[0].N - b[0].N) })
			if got, e := plan.Answer(p, []api.Table{rows}); e != api.OK || !sameRows(got, want) {
				t.Errorf("%d behind %d, desc %v: %d rows, error %d", c.count, c.off, desc, len(got), e)
			}
		}
	}
}

func TestWindows(t *testing.T) {
	for _, c := range [][2]string{
		{"(window number 0 0 () () (scan l))", `[- - 1][- "a" 2][-1 "a" 3][3 - 4][3 "a" 5][3 "b" 6][3 "b" 7]`},
		{"(window number 0 0 () ((desc 0)) (scan l))", `[- - 6][- "a" 7][-1 "a" 5][3 - 1][3 "a" 2][3 "b" 3][3 "b" 4]`},
		{"(window number 0 0 (0) () (scan l))", `[- - 1][- "a" 2][-1 "a" 1][3 - 1][3 "a" 2][3 "b" 3][3 "b" 4]`},
		{"(window number 0 0 (1) ((desc 0)) (scan l))", `[- - 2][- "a" 3][-1 "a" 2][3 - 1][3 "a" 1][3 "b" 1][3 "b" 2]`},
		{"(window rank 0 0 () (0) (scan l))", `[- - 1][- "a" 1][-1 "a" 3][3 - 4][3 "a" 4][3 "b" 4][3 "b" 4]`},
		{"(window rank 0 0 () ((desc 0)) (scan l))", `[- - 6][- "a" 6][-1 "a" 5][3 - 1][3 "a" 1][3 "b" 1][3 "b" 1]`},
		{"(window rank 0 0 () () (scan l))", `[- - 1][- "a" 1][-1 "a" 1][3 - 1][3 "a" 1][3 "b" 1][3 "b" 1]`},
		{"(window rank 0 0 (0) (1) (scan l))", `[- - 1][- "a" 2][-1 "a" 1][3 - 1][3 "a" 2][3 "b" 3][3 "b" 3]`},
		{"(window dense 0 0 () (0) (scan l))", `[- - 1][- "a" 1][-1 "a" 2][3 - 3][3 "a" 3][3 "b" 3][3 "b" 3]`},
		{"(window dense 0 0 () () (scan l))", `[- - 1][- "a" 1][-1 "a" 1][3 - 1][3 "a" 1][3 "b" 1][3 "b" 1]`},
		{"(window dense 0 0 () (1 (desc 0)) (scan l))", `[- - 2][- "a" 5][-1 "a" 4][3 - 1][3 "a" 3][3 "b" 6][3 "b" 6]`},
		{"(window rank 0 0 () (1 (desc 0)) (scan l))", `[- - 2][- "a" 5][-1 "a" 4][3 - 1][3 "a" 3][3 "b" 6][3 "b" 6]`},
		{"(window sumover 0 -1 () () (scan l))", `[- - -][- "a" -][-1 "a" -1][3 - 2][3 "a" 5][3 "b" 8][3 "b" 11]`},
		{"(window sumover 0 1 () () (scan l))", `[- - -][- "a" -][-1 "a" -1][3 - 2][3 "a" 6][3 "b" 6][3 "b" 6]`},
		{"(window sumover 0 0 () () (scan l))", `[- - -][- "a" -][-1 "a" -1][3 - 3][3 "a" 3][3 "b" 3][3 "b" 3]`},
		{"(window sumover 0 1 () ((desc 0)) (scan l))", `[- - -1][- "a" -][-1 "a" 2][3 - 3][3 "a" 6][3 "b" 6][3 "b" 6]`},
		{"(window sumover 0 -1 (1) () (scan l))", `[- - -][- "a" -][-1 "a" -1][3 - 3][3 "a" 2][3 "b" 3][3 "b" 6]`},
		{"(window countover 1 -1 () () (scan l))", `[- - 0][- "a" 1][-1 "a" 2][3 - 2][3 "a" 3][3 "b" 4][3 "b" 5]`},
		{"(window countover 1 1 () () (scan l))", `[- - 0][- "a" 1][-1 "a" 2][3 - 1][3 "a" 1][3 "b" 2][3 "b" 2]`},
		{"(window countover 0 0 () () (scan l))", `[- - 0][- "a" 0][-1 "a" 1][3 - 1][3 "a" 1][3 "b" 1][3 "b" 1]`},
		{"(window ahead 1 1 () () (scan l))", `[- - -][- "a" -][-1 "a" "a"][3 - "a"][3 "a" -][3 "b" "a"][3 "b" "b"]`},
		{"(window ahead 0 0 () () (scan l))", `[- - -][- "a" -][-1 "a" -1][3 - 3][3 "a" 3][3 "b" 3][3 "b" 3]`},
		{"(window ahead 0 3 () () (scan l))", `[- - -][- "a" -][-1 "a" -][3 - -][3 "a" -][3 "b" -1][3 "b" 3]`},
		{"(window ahead 0 9223372036854775807 () () (scan m))", `[- -][3 -][3 -][4 -]`},
		{"(window ahead 0 1 () ((desc 0)) (scan m))", `[- 3][3 3][3 4][4 -]`},
		{"(window number 0 0 (0 1) () (scan l))", `[- - 1][- "a" 1][-1 "a" 1][3 - 1][3 "a" 1][3 "b" 1][3 "b" 2]`},
		{"(window number 0 0 () () (scan none))", ``},
	} {
		answers(t, c[0], letters(), c[1])
	}
}

// Texts that a key could run into one another are told apart.
func TestRowsThatLookAlike(t *testing.T) {
	tables := []api.Table{table("p", "tt", []api.Value{s("a"), s("bc")}, []api.Value{s("ab"), s("c")}, []api.Value{s("\x00"), s("")}, []api.Value{s(""), s("\x00")}, []api.Value{s(""), null}, []api.Value{null, s("")})}
	for _, text := range []string{"(scan p)", "(distinct (scan p))", "(group (0 1) () (scan p))", "(minus (union (scan p) (scan p)) (scan p))"} {
		answers(t, text, tables, `[- ""]["" -]["" "\x00"]["\x00" ""]["a" "bc"]["ab" "c"]`)
	}
	answers(t, "(group () ((countall 0)) (join (and (eq #0 #2) (eq #1 #3)) (scan p) (scan p)))", tables, "[4]")
}

func TestValuesCountForWhatIsClean(t *testing.T) {
	tables := []api.Table{table("d", "it",
		[]api.Value{{Kind: api.Int, N: 1, S: "x"}, {Kind: api.Text, N: 5, S: "a"}},
		[]api.Value{{Kind: api.Int, N: 1}, {Kind: api.Text, N: 6, S: "a"}},
		[]api.Value{{Kind: 9, N: 1}, {Kind: -1, S: "a"}})}
	answers(t, "(scan d)", tables, `[- -][1 "a"][1 "a"]`)
	answers(t, "(distinct (scan d))", tables, `[- -][1 "a"]`)
	answers(t, "(group (0 1) ((count 0) (sum 0) (counteach 1)) (scan d))", tables, `[- - 0 - 0][1 "a" 2 2 1]`)
	answers(t, "(window countover 0 -1 () () (scan d))", tables, `[- - 0][1 "a" 1][1 "a" 2]`)
	rows, _ := plan.Answer(scan("d"), tables)
	if !sameRows(rows, [][]api.Value{{null, null}, {n(1), s("a")}, {n(1), s("a")}}) {
		t.Errorf("not clean: %v", rows)
	}
}

// Of two tables of many rows there are more pairs than are worth holding.
func TestManyPairs(t *testing.T) {
	first, second := table("a", "i"), table("b", "i")
	for i := range int64(2000) {
		first.Rows = append(first.Rows, []api.Value{n(i)})
		second.Rows = append(second.Rows, []api.Value{n(i % 100)})
	}
	tables := []api.Table{first, second}
	answers(t, "(group () ((countall 0) (sum 1)) (join 1 (scan a) (scan b)))", tables, "[4000000 198000000]")
	answers(t, "(top ((desc 0) (desc 1)) 1 0 (join 1 (scan a) (scan b)))", tables, "[1999 99]")
	answers(t, "(filter (eq (add (mul #0 1000) #1) 7031) (join 1 (scan a) (scan b)))", tables, strings.Repeat("[7 31]", 20))
}

// Whichever side of a join means more rows, in whatever way, goes by those of
// the other one, and is not held.
func TestTheLesserSideIsHeld(t *testing.T) {
	few, lots := table("few", "i", []api.Value{n(1)}, []api.Value{n(2)}, []api.Value{n(3)}), table("lots", "i")
	for i := range int64(600) {
		lots.Rows = append(lots.Rows, []api.Value{n(i)})
	}
	tables := []api.Table{few, lots}
	for _, many := range []string{
		"(join 1 (scan lots) (scan lots))",
		"(leftjoin 1 (scan lots) (scan lots))",
		"(filter (ge #1 0) (join 1 (scan lots) (scan lots)))",
		"(union (empty (int int)) (join 1 (scan lots) (scan lots)))",
		"(project (#0 #1) (union (leftjoin 1 (scan lots) (scan lots)) (empty (int int))))",
	} {
		for _, text := range []string{
			"(join (lt #0 3) (scan few) " + many + ")",
			"(join (lt #2 3) " + many + " (scan few))",
			"(leftjoin (lt #0 3) (scan few) " + many + ")",
			"(leftjoin (lt #2 2) " + many + " (scan few))",
		} {
			var before, after runtime.MemStats
			runtime.ReadMemStats(&before)
			rows, e := plan.Answer(parsed(t, "(group () ((countall 0)) "+text+")"), tables)
			runtime.ReadMemStats(&after)
			if e != api.OK || rows[0][0].N < 360000 || rows[0][0].N > 720001 {
				t.Errorf("%s: %s, error %d", text, show(rows), e)
			}
			if used := after.TotalAlloc - before.TotalAlloc; used > 5<<20 {
				t.Errorf("%s took %d bytes", text, used)
			}
		}
	}
}

// Joins by what is equal are not a matter of trying all pairs.
func TestEqualRowsAreMatchedQuickly(t *testing.T) {
	const count = 40000
	tables := []api.Table{table("a", "it"), table("b", "ti")}
	for i := range int64(count) {
		text := s(strconv.FormatInt(i, 36))
		tables[0].Rows = append(tables[0].Rows, []api.Value{n(i), text})
		tables[1].Rows = append(tables[1].Rows, []api.Value{text, n(count - i)})
	}
	answers(t, "(group () ((countall 0) (sum 0)) (join (eq #1 #2) (scan a) (scan b)))", tables, "[40000 799980000]")
	answers(t, "(group () ((countall 0) (count 3)) (leftjoin (and (lt #0 5) (eq #2 #1)) (scan a) (scan b)))", tables, "[40000 5]")
	answers(t, "(group () ((countall 0)) (join (and (eq #1 #2) (eq (add #0 #3) 40000)) (scan a) (scan b)))", tables, "[40000]")
	answers(t, "(group () ((countall 0)) (join (eq (mul #0 2) (sub #3 1)) (scan a) (scan b)))", tables, "[20000]")
	answers(t, "(group () ((most 2)) (window sumover 0 -1 () (0) (scan a)))", tables, "[799980000]")
	answers(t, "(group () ((most 2)) (window sumover 0 20000 () (0) (scan a)))", tables, "[600009999]")
	answers(t, "(group () ((most 2) (countall 0)) (window dense 0 0 () (1) (scan a)))", tables, "[40000 40000]")
}
