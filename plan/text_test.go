package plan_test

import (
	"math"
	"math/rand"
	"slices"
	"strings"
	"testing"

	"tallyhouse/api"
	"tallyhouse/plan"
)

// written: texts, and the plans that they are.
func written() map[string]api.Plan {
	t := scan("t")
	desc := func(c int) api.Key { return api.Key{Col: c, Desc: true} }
	out := map[string]api.Plan{
		"(scan t)":                                               t,
		"(scan a_0)":                                             scan("a_0"),
		"(scan scan)":                                            scan("scan"),
		"(scan null)":                                            scan("null"),
		"(filter #0 (scan t))":                                   filter(col(0), t),
		"(filter null (scan t))":                                 filter(con(null), t),
		"(filter 0 (scan t))":                                    filter(num(0), t),
		"(filter -1 (scan t))":                                   filter(num(-1), t),
		`(filter "" (scan t))`:                                   filter(txt(""), t),
		`(filter "null" (scan t))`:                               filter(txt("null"), t),
		`(filter "a b" (scan t))`:                                filter(txt("a b"), t),
		`(filter "()#~" (scan t))`:                               filter(txt("()#~"), t),
		`(filter "\22\5c\00\0a\7f\ff" (scan t))`:                 filter(txt("\"\\\x00\n\x7f\xff"), t),
		"(filter 9223372036854775807 (scan t))":                  filter(num(math.MaxInt64), t),
		"(filter -9223372036854775808 (scan t))":                 filter(num(math.MinInt64), t),
		"(filter #9223372036854775807 (scan t))":                 filter(col(math.MaxInt), t),
		"(project (#1) (scan t))":                                project(t, col(1)),
		`(project (#1 2 "x" (neg #3)) (scan t))`:                 project(t, col(1), num(2), txt("x"), of(api.Neg, col(3))),
		"(join (eq #0 #2) (scan t) (scan u))":                    join(api.Join, of(api.Eq, col(0), col(2)), t, scan("u")),
		"(leftjoin (eq #0 #2) (scan t) (scan u))":                join(api.LeftJoin, of(api.Eq, col(0), col(2)), t, scan("u")),
		"(group (0) () (scan t))":                                group(t, []int{0}),
		"(group () ((countall 0)) (scan t))":                     group(t, nil, api.Agg{Fn: api.CountAll}),
		"(group (3 0) ((count 1) (sum 2) (count 1)) (scan t))":   group(t, []int{3, 0}, api.Agg{Fn: api.Count, Col: 1}, api.Agg{Fn: api.Sum, Col: 2}, api.Agg{Fn: api.Count, Col: 1}),
		"(group () ((least 4) (most 5) (counteach 6)) (scan t))": group(t, nil, api.Agg{Fn: api.Least, Col: 4}, api.Agg{Fn: api.Most, Col: 5}, api.Agg{Fn: api.CountEach, Col: 6}),
		"(distinct (scan t))":                                    distinct(t),
		"(union (scan t))":                                       union(t),
		"(union (scan t) (scan u) (scan v))":                     union(t, scan("u"), scan("v")),
		"(top () 0 0 (scan t))":                                  top(t, 0, 0),
		"(top (1 (desc 0) 2) 5 7 (scan t))":                      top(t, 5, 7, api.Key{Col: 1}, desc(0), api.Key{Col: 2}),
		"(top ((desc 3)) 9223372036854775807 9223372036854775807 (scan t))":      top(t, math.MaxInt, math.MaxInt, desc(3)),
		"(window number 0 0 () () (scan t))":                                     window(api.Number, 0, 0, t, nil),
		"(window rank 0 0 (1) (2) (scan t))":                                     window(api.Rank, 0, 0, t, []int{1}, api.Key{Col: 2}),
		"(window dense 0 0 (1 0) (2 (desc 0)) (scan t))":                         window(api.Dense, 0, 0, t, []int{1, 0}, api.Key{Col: 2}, desc(0)),
		"(window sumover 1 -3 () () (scan t))":                                   window(api.SumOver, 1, -3, t, nil),
		"(window countover 1 -9223372036854775808 () () (scan t))":               window(api.CountOver, 1, math.MinInt, t, nil),
		"(window ahead 2 5 (4) ((desc 3)) (scan t))":                             window(api.Ahead, 2, 5, t, []int{4}, desc(3)),
		"(minus (scan t) (scan u))":                                              minus(t, scan("u")),
		"(empty (int))":                                                          empty(api.Int),
		"(empty (int text text))":                                                empty(api.Int, api.Text, api.Text),
		"(distinct (union (filter #0 (scan t)) (minus (scan t) (empty (int)))))": distinct(union(filter(col(0), t), minus(t, empty(api.Int)))),
	}
	words := strings.Fields("neg not isnull len add sub mul div mod eq ne lt le gt ge cat and or if")
	for i, word := range words {
		op := api.Neg + i
		parts := []api.Expr{col(0), num(-7), txt("x")}
		texts := []string{"#0", "-7", `"x"`}
		count := 2
		switch {
		case op <= api.Len:
			count = 1
		case op == api.If:
			count = 3
		}
		out["(filter ("+word+" "+strings.Join(texts[:count], " ")+") (scan t))"] = filter(of(op, parts[:count]...), t)
	}
	return out
}

func TestPrintAndParse(t *testing.T) {
	for text, p := range written() {
		if got, e := plan.Print(p); e != api.OK || got != text {
			t.Errorf("Print gives %s, error %d, not %s", got, e, text)
		}
		if got, e := plan.Parse(text); e != api.OK || !same(got, p) {
			t.Errorf("Parse(%s) gives %v, error %d", text, got, e)
		}
	}
}

// tokens of a text that Print gives.
func tokens(text string) []string {
	var out []string
	for len(text) > 0 {
		size := 1
		switch text[0] {
		case ' ':
			text = text[1:]
			continue
		case '(', ')':
		case '"':
			size += strings.IndexByte(text[1:], '"') + 1
		default:
			size = strings.IndexAny(text, " ()\"")
		}
		out = append(out, text[:size])
		text = text[size:]
	}
	return out
}

func isWord(token string) bool { return !strings.ContainsAny(token[:1], `()"`) }

// spaced: tokens with any blanks between them, and none where none are needed.
func spaced(r *rand.Rand, list []string) string {
	out, last := "", "("
	for _, token := range append(slices.Clone(list), ")") {
		count := r.Intn(3)
		if isWord(token) && isWord(last) {
			count = max(count, 1)
		}
		for range count {
			out += string(" \t\n"[r.Intn(3)])
		}
		out, last = out+token, token
	}
	return strings.TrimSuffix(out, ")")
}

func TestManyPlansAreTexts(t *testing.T) {
	each(4, 2000, func(m maker, p api.Plan) {
		text, e := plan.Print(p)
		if e != api.OK {
			t.Fatalf("Print of %v: error %d", p, e)
		}
		if len(text) > api.MaxLine {
			return
		}
		list := tokens(text)
		for _, again := range []string{text, spaced(m.Rand, list), strings.Join(list, "\n")} {
			if len(again) > api.MaxLine {
				continue
			}
			if got, e := plan.Parse(again); e != api.OK || !same(got, p) {
				t.Fatalf("Parse(%q) gives %v, error %d", again, got, e)
			}
		}
		// One token less, or one more: what is read is another plan, which is
		// printed as it stands there.
		at := m.Intn(len(list))
		for _, other := range [][]string{slices.Delete(slices.Clone(list), at, at+1), slices.Insert(slices.Clone(list), at, list[m.Intn(len(list))])} {
			q, e := plan.Parse(strings.Join(other, " "))
			if e == api.OK {
				again, _ := plan.Print(q)
				if !slices.Equal(tokens(again), other) {
					t.Fatalf("%v is read as %s", other, again)
				}
			} else if !same(q, api.Plan{}) {
				t.Fatalf("beside error %d stands %v", e, q)
			}
		}
	})
}

// noText: what is no text of a plan.
func noText() []string {
	out := []string{
		"", " ", "()", "(())", "t", "scan", "null", `"t"`, "5", "(scan)", "(scan t", "scan t)", "(scan t))", "((scan t))", "(scan t) (scan t)", "(scan t)t", "(scan t u)", "(scan (t))", `(scan "t")`, `("scan" t)`,
		"(scan T)", "(scan 1)", "(scan 1a)", "(scan _a)", "(scan #0)", "(scan -a)", "(scan a-b)", "(scan a#)", "(scan " + strings.Repeat("a", 41) + ")", "(scan t.u)", "(scan t\r)", "(scan\u00a0t)", "(scan\x00t)", "(Scan t)", "(scant)", "(scan1 t)",
		"(#0)", "(1)", "(null)", "(filter)", "(filter #0)", "(filter (scan t))", "(filter (scan t) #0)", "(filter #0 #0 (scan t))", "(filter #0 (scan t) (scan t))", "(filter (#0) (scan t))", "(filter () (scan t))", "(filter null)", "(filter nul (scan t))", "(filter null0 (scan t))", "(filter t (scan t))", "(filter #0 t)",
		"(project #0 (scan t))", "(project (#0))", "(project (scan t))", "(project (#0) (#0) (scan t))", "(project ((#0)) (scan t))", "(project (#0) (scan t) (scan t))",
		"(join 1 (scan t))", "(join (scan t) (scan t))", "(join 1 (scan t) (scan t) (scan t))", "(leftjoin 1 (scan t))", "(leftjoin (1) (scan t) (scan t))", "(left 1 (scan t) (scan t))",
		"(group (0) (scan t))", "(group 0 () (scan t))", "(group (0) ())", "(group (#0) () (scan t))", "(group (a) () (scan t))", `(group ("0") () (scan t))`, "(group ((0)) () (scan t))", "(group () (countall 0) (scan t))", "(group () ((countall)) (scan t))", "(group () ((countall 0 0)) (scan t))", "(group () ((count #0)) (scan t))", "(group () ((number 0)) (scan t))", "(group () (()) (scan t))", "(group () (0) (scan t))", "(group () ((0 count)) (scan t))", "(group () ((Count 0)) (scan t))", `(group () (("count" 0)) (scan t))`, "(group () ((count (0))) (scan t))", "(group () ((count -)) (scan t))",
		"(distinct)", "(distinct (scan t) (scan t))", "(distinct t)", "(union t)", "(union ())", "(union (scan t) 5)",
		"(top 0 1 1 (scan t))", "(top (0) 1 (scan t))", "(top (0) 1 1)", "(top (0) 1 1 1 (scan t))", "(top (0) (1) 1 (scan t))", "(top (0) #1 1 (scan t))", `(top (0) "1" 1 (scan t))`, "(top (0) null 1 (scan t))", "(top ((asc 0)) 1 1 (scan t))", "(top ((desc)) 1 1 (scan t))", "(top ((desc 0 1)) 1 1 (scan t))", "(top (desc 0) 1 1 (scan t))", "(top ((0)) 1 1 (scan t))", "(top (()) 1 1 (scan t))", "(top ((desc (0))) 1 1 (scan t))", "(top ((desc #0)) 1 1 (scan t))", "(top (#0) 1 1 (scan t))", `(top ("0") 1 1 (scan t))`, `(top (("desc" 0)) 1 1 (scan t))`,
		"(window number 0 0 () (scan t))", "(window number 0 0 () ())", "(window number 0 () () (scan t))", "(window 0 0 number () () (scan t))", "(window count 0 0 () () (scan t))", "(window sum 0 0 () () (scan t))", `(window "number" 0 0 () () (scan t))`, "(window (number) 0 0 () () (scan t))", "(window number #0 0 () () (scan t))", "(window number 0 0 0 () (scan t))", "(window number 0 0 () 0 (scan t))", "(window number 0 0 ((desc 0)) () (scan t))", "(window number 0 0 () () (scan t) (scan t))", "(window 1 0 0 () () (scan t))",
		"(minus (scan t))", "(minus (scan t) (scan t) (scan t))", "(minus)", "(empty)", "(empty int)", "(empty (null))", "(empty (int) (int))", "(empty (1))", `(empty ("int"))`, "(empty ((int)))", "(empty (Int))", "(empty (int) (scan t))", "(empty (number))",
		`(filter """" (scan t))`, "(frob (scan t))", "(desc 0)", "(int)", "(add 1 1)", "(countall 0)",
	}
	// What is no expression.
	for _, e := range []string{
		"#", "##0", "#a", "#01", "#-0", "#-", "#0#", "0#", "#00", "#9223372036854775808", "#-9223372036854775809", "# 0",
		"-", "--1", "-0", "00", "01", "-01", "+1", "1-", "1a", "1_0", "0x1", "1.5", "1e5", "9223372036854775808", "-9223372036854775809", "100000000000000000000",
		"(neg)", "(neg 1 1)", "(not)", "(not 1 1)", "(isnull)", "(isnull 1 1)", "(len)", "(len 1 1)", "(add)", "(add 1)", "(add 1 1 1)", "(sub 1)", "(mul 1)", "(div 1)", "(mod 1)", "(eq 1)", "(ne 1)", "(lt 1)", "(le 1)", "(gt 1)", "(ge 1)", "(cat 1)", "(and 1)", "(and 1 1 1)", "(or 1)", "(or 1 1 1)", "(if 1 1)", "(if 1 1 1 1)", "(if)",
		"(1)", "(#0)", "(null)", "(col 0)", "(const 1)", "(Add 1 1)", `("add" 1 1)`, "((add) 1 1)", "(1 add 1)", "(add 1 ())", "(add 1 t)", "(scan t)", "(add (scan t) 1)", "(addd 1 1)", "(neg1)", "(+ 1 1)",
		`"`, `"a`, `"\"`, `"\4"`, `"\41"`, `"\20"`, `"\7e"`, `"\0A"`, `"\0g"`, `"\x00"`, `"\n"`, `"\\"`, "\"\n\"", "\"\t\"", "\"\x7f\"", "\"\xe9\"", `'a'`,
	} {
		out = append(out, "(filter "+e+" (scan t))", "(project (1 "+e+") (scan t))", "(join (and 1 "+e+") (scan t) (scan t))")
	}
	return out
}

func TestWhatIsNoText(t *testing.T) {
	for _, text := range noText() {
		if p, e := plan.Parse(text); e != api.ErrText || !same(p, api.Plan{}) {
			t.Errorf("Parse(%q) gives %v, error %d", text, p, e)
		}
	}
}

func TestTextsOfPlansThatAreNotBuilt(t *testing.T) {
	nots := strings.Repeat("(not ", 40) + "1" + strings.Repeat(")", 40)
	for text, want := range map[string]api.Errno{
		"(project () (scan t))":                                                     api.ErrArg,
		"(project (" + strings.Repeat("1 ", 33) + ") (scan t))":                     api.ErrArg,
		"(group () () (scan t))":                                                    api.ErrArg,
		"(group (0 0) () (scan t))":                                                 api.ErrArg,
		"(group (-1) () (scan t))":                                                  api.ErrArg,
		"(group () ((countall 1)) (scan t))":                                        api.ErrArg,
		"(group () ((sum -1)) (scan t))":                                            api.ErrArg,
		"(union)":                                                                   api.ErrArg,
		"(top (0 (desc 0)) 1 1 (scan t))":                                           api.ErrArg,
		"(top (-1) 1 1 (scan t))":                                                   api.ErrArg,
		"(top () -1 1 (scan t))":                                                    api.ErrArg,
		"(top () 1 -9223372036854775808 (scan t))":                                  api.ErrArg,
		"(window number 1 0 () () (scan t))":                                        api.ErrArg,
		"(window rank 0 1 () () (scan t))":                                          api.ErrArg,
		"(window dense 0 -1 () () (scan t))":                                        api.ErrArg,
		"(window ahead 0 -1 () () (scan t))":                                        api.ErrArg,
		"(window sumover -1 0 () () (scan t))":                                      api.ErrArg,
		"(window number 0 0 (1 1) () (scan t))":                                     api.ErrArg,
		"(window number 0 0 () (1 1) (scan t))":                                     api.ErrArg,
		"(empty ())":                                                                api.ErrArg,
		"(empty (" + strings.Repeat("int ", 33) + "))":                              api.ErrArg,
		"(filter #-1 (scan t))":                                                     api.ErrArg,
		"(filter " + nots + " (scan t))":                                            api.ErrArg,
		`(filter "` + long(1001) + `" (scan t))`:                                    api.ErrArg,
		"(distinct (union))":                                                        api.ErrArg,
		"(project (" + strings.Repeat("1 ", 400) + ") (scan t))":                    api.ErrLarge,
		"(union" + strings.Repeat("(scan t)", 400) + ")":                            api.ErrLarge,
		"(union (union)" + strings.Repeat("(scan t)", 399) + ")":                    api.ErrLarge,
		strings.Repeat("(distinct ", 40) + "(scan t)" + strings.Repeat(")", 40):     api.ErrLarge,
		strings.Repeat("(distinct ", 1000) + "(scan t)" + strings.Repeat(")", 1000): api.ErrLarge,
		strings.Repeat("(distinct ", 39) + "(scan t)" + strings.Repeat(")", 39):     api.OK,
		"(union" + strings.Repeat("(scan t)", 399) + ")":                            api.OK,
		`(filter "` + long(1000) + `" (scan t))`:                                    api.OK,
		"(filter " + nots[5:len(nots)-1] + " (scan t))":                             api.OK,
	} {
		p, e := plan.Parse(text)
		if e != want || e != api.OK && !same(p, api.Plan{}) {
			t.Errorf("Parse(%s) gives error %d, not %d", text, e, want)
		}
	}
}

func TestHowLongATextMayBe(t *testing.T) {
	pad := func(size int) string { return "(scan t)" + strings.Repeat(" ", size-8) }
	if p, e := plan.Parse(pad(api.MaxLine)); e != api.OK || p.Table != "t" {
		t.Errorf("20000 bytes: error %d", e)
	}
	for _, text := range []string{pad(api.MaxLine + 1), strings.Repeat("(", api.MaxLine+1), strings.Repeat("x", 1<<20), strings.Repeat("(union ", 3000)} {
		if p, e := plan.Parse(text); e != api.ErrLarge || !same(p, api.Plan{}) {
			t.Errorf("%d bytes: error %d", len(text), e)
		}
	}
	for _, text := range []string{strings.Repeat("(", api.MaxLine), strings.Repeat("()", api.MaxLine/2), strings.Repeat("(neg ", api.MaxLine/5), strings.Repeat(`"`, api.MaxLine), strings.Repeat("(", api.MaxLine/2) + strings.Repeat(")", api.MaxLine/2)} {
		if p, e := plan.Parse(text); e != api.ErrText || !same(p, api.Plan{}) {
			t.Errorf("%d bytes: error %d", len(text), e)
		}
	}
	// A plan's text may be longer than one that is read.
	var exprs []api.Expr
	for range 32 {
		exprs = append(exprs, txt(strings.Repeat("\x00", 1000)))
	}
	text, e := plan.Print(project(scan("t"), exprs...))
	if e != api.OK || len(text) != len("(project () (scan t))")+32*3002+31 {
		t.Errorf("its text has %d bytes, error %d", len(text), e)
	}
	if _, e := plan.Parse(text); e != api.ErrLarge {
		t.Errorf("it is read: error %d", e)
	}
}
