package tally_test

import (
	"math/rand"
	"strconv"
	"strings"
	"testing"

	"tallyhouse/api"
	"tallyhouse/tally"
)

// settled: a machine with the tables t (a int, b text), u (a int) and the views
// v over t, w over v.
func settled(t *testing.T) *tally.Machine {
	t.Helper()
	m := small(t)
	do(t, m, "(make t ((a int) (b text)))", "(make u ((a int)))", `(add t (1 "x") (5 null) (5 null))`, "(add u (1) (2) (3))",
		"(view v (filter (gt #0 1) (scan t)))", "(view w (distinct (scan v)))")
	return m
}

func TestLinesThatAreNoCommands(t *testing.T) {
	m := settled(t)
	for _, line := range []string{
		"", " ", "\n", "()", "(())", "x", `"show"`, "show t", "(show t", "show t)", "(show t))", "((show t))", "(show t) x", "(show t) (show u)", "x (show t)",
		`("show" t)`, "(SHOW t)", "(show t);", "(show\rt)", "(show\x00t)", "((show) t)", "(shows t)", "(sho t)", "(scan t)", "(null t)", "(select t)", "(0 t)",
		"(make)", "(make z)", "(make z ((a int)) ())", "(make z a)", "(make z (a int))", "(make z ((a)))", "(make z ((a int int)))", "(make z ((a int) a))",
		"(make z ((a null)))", "(make z ((a 1)))", `(make z (("a" int)))`, `(make z ((a "int")))`, "(make z ((a (int))))", "(make z ((1 int)))", "(make z ((#0 int)))",
		"(make z ((a int) ()))", `(make "z" ((a int)))`, "(make 1 ((a int)))", "(make _z ((a int)))", "(make z-z ((a int)))", "(make (z) ((a int)))", "(make ((a int)) z)",
		"(make " + strings.Repeat("z", api.MaxName+1) + " ((a int)))", "(make z ((" + strings.Repeat("a", api.MaxName+1) + " int)))",
		"(add)", "(add ())", "(add (t))", "(add t 1)", "(add t (1 null) 2)", "(add t 1 null)", "(add t ((1 null)))", "(add t (1 (null)))", "(add t (1 #0))", "(add t (1 x))",
		"(add t (+1 null))", "(add t (01 null))", "(add t (-0 null))", "(add t (- null))", "(add t (1-1 null))", "(add t (9223372036854775808 null))", "(add t (-9223372036854775809 null))",
		`(add t (1 "a))`, `(add t (1 "\4"))`, `(add t (1 "\41"))`, `(add t (1 "\GG"))`, `(add t (1 "\0A"))`, "(add t (1 \"\n\"))", "(add t (1 \"\x80\"))", "(add t ((neg 1) null))",
		"(take)", "(take t 1)", "(take t (#0 null))", "(take t (1 (add 1 2)))",
		"(view)", "(view z)", "(view (scan t))", "(view (scan t) z)", "(view z t)", "(view z (scan t) (scan t))", "(view z ())", "(view z (scan))", "(view z (scan 1))", "(view 1 (scan t))",
		"(view z (show t))", `(view z (scan "t"))`, "(view z (filter (scan t)))", "(view z (filter (xor 1 1) (scan t)))",
		"(drop)", "(drop t u)", "(drop (t))", "(drop 1)", "(drop #0)", "(drop T)",
		"(show)", "(show t t)", "(show (t))", `(show "t")`, "(show (scan t))",
		"(ask)", "(ask t)", "(ask (scan t) (scan t))", "(ask ())", "(ask scan t)", "(ask ((scan t)))", "(ask (top 1 0 (scan t)))", "(ask (window number 0 () () (scan t)))", "(ask (empty (null)))",
		"(explain)", "(explain t)", "(explain (scan t) (scan t))", "(explain (ask (scan t)))", "(explain z (scan t))",
		"(merge)", "(merge t t)", "(merge (t))", "(merge 0)",
	} {
		wantRefused(t, m, line, api.ErrText)
	}
}

func TestBlanksMakeNoDifference(t *testing.T) {
	m := small(t)
	for _, line := range []string{
		"(make t((a int)(b text)))", " \t\n( make\nu\t(( a\nint ) ) )\n\n", `(add t(1"x")(2 null)(3""))`, " (take\tt\n(2\tnull)\n)", "(view v(filter(gt #0 1)(scan t)))",
		"\n(show\nv)", "(ask(scan v) )", "(explain\t(scan v))", "( merge t )", "(drop v\n)",
	} {
		if r := m.Do(line); r.Err != api.OK {
			t.Errorf("%q: error %d", line, r.Err)
		}
	}
	want(t, m, "(show t)", shown(kindsOf("it"), row(num(1), text("x")), row(num(3), text(""))))
}

// columnsOf a make: so many.
func columnsOf(count int) string {
	var out []string
	for i := range count {
		out = append(out, "(c"+strconv.Itoa(i)+" int)")
	}
	return "(" + strings.Join(out, " ") + ")"
}

// wrapped: a plan so much higher.
func wrapped(inner string, more int) string {
	return strings.Repeat("(distinct ", more) + inner + strings.Repeat(")", more)
}

// unions of so many Scans.
func unions(name string, count int) string {
	return "(union" + strings.Repeat(" (scan "+name+")", count) + ")"
}

func TestRefusals(t *testing.T) {
	m := settled(t)
	long := strings.Repeat("y", api.MaxText+1)
	for _, c := range []struct {
		line string
		want api.Errno
	}{
		{"(make z ())", api.ErrArg},
		{"(make z " + columnsOf(api.MaxColumns+1) + ")", api.ErrArg},
		{"(make z ((a int) (a int)))", api.ErrArg},
		{"(make z ((a int) (b int) (a text)))", api.ErrArg},
		{"(make t ())", api.ErrArg},
		{"(make v ((a int) (a text)))", api.ErrArg},
		{"(make t ((a int)))", api.ErrThere},
		{"(make v ((a int)))", api.ErrThere},
		{"(view t (scan u))", api.ErrThere},
		{"(view v (scan u))", api.ErrThere},
		{"(view v (scan nowhere))", api.ErrThere},
		{"(view v (filter #1 (scan t)))", api.ErrThere},
		{"(add v (5 null))", api.ErrAbsent},
		{"(add z (5 null))", api.ErrAbsent},
		{"(add z ())", api.ErrAbsent},
		{"(add z)", api.ErrAbsent},
		{"(take v (5 null))", api.ErrAbsent},
		{"(take z (5))", api.ErrAbsent},
		{"(merge v)", api.ErrAbsent},
		{"(merge z)", api.ErrAbsent},
		{"(drop z)", api.ErrAbsent},
		{"(show z)", api.ErrAbsent},
		{"(drop t)", api.ErrUsed},
		{"(drop v)", api.ErrUsed},
		{"(add t ())", api.ErrArg},
		{"(add t (1))", api.ErrArg},
		{"(add t (1 null null))", api.ErrArg},
		{"(add t (1 2))", api.ErrArg},
		{`(add t ("1" "x"))`, api.ErrArg},
		{`(add t (1 "x") (2 "y") (3))`, api.ErrArg},
		{`(add t (1 "` + long + `"))`, api.ErrArg},
		{`(add u ("` + long + `"))`, api.ErrArg},
		{"(take t ())", api.ErrArg},
		{"(take t (1))", api.ErrArg},
		{"(take t (5 null null))", api.ErrArg},
		{`(take t (1 "` + long + `"))`, api.ErrArg},
		{"(take t (1 1))", api.ErrArg},
		{`(take t (1 "X"))`, api.ErrArg},
		{`(take t (null "x"))`, api.ErrArg},
		{"(take t (1 null))", api.ErrArg},
		{"(take t (5 null) (5 null) (5 null))", api.ErrArg},
		{`(take t (1 "x") (5 null) (6 null))`, api.ErrArg},
		{"(take u (1) (2) (1))", api.ErrArg},
		{"(take u (4))", api.ErrArg},
		{"(ask (scan z))", api.ErrAbsent},
		{"(ask (union (scan v) (scan z)))", api.ErrAbsent},
		{"(ask (filter #2 (scan v)))", api.ErrArg},
		{"(ask (filter #1 (scan w)))", api.ErrKind},
		{"(ask (union (scan v) (scan u)))", api.ErrKind},
		{"(ask (union (filter #1 (scan v)) (scan z)))", api.ErrKind},
		{"(ask (project () (scan t)))", api.ErrArg},
		{"(ask (filter #-1 (scan t)))", api.ErrArg},
		{"(ask (group (0 0) () (scan z)))", api.ErrArg},
		{"(explain (scan z))", api.ErrAbsent},
		{"(explain (filter #1 (scan t)))", api.ErrKind},
		{"(explain (top () -1 0 (scan t)))", api.ErrArg},
		{"(view z (scan z))", api.ErrAbsent},
		{"(view z (filter #1 (scan t)))", api.ErrKind},
		{"(view z (filter #9 (scan v)))", api.ErrArg},
		{"(view z (union))", api.ErrArg},
		{"(view v (union))", api.ErrArg},
		{"(ask " + wrapped("(scan z)", api.MaxDepth) + ")", api.ErrLarge},
		{"(view v " + wrapped("(scan t)", api.MaxDepth) + ")", api.ErrLarge},
		{"(explain " + unions("z", api.MaxNodes) + ")", api.ErrLarge},
		{"(ask " + wrapped("(scan v)", api.MaxDepth-1) + ")", api.ErrLarge},
		{"(ask " + wrapped("(union (scan v) (scan z))", api.MaxDepth-2) + ")", api.ErrLarge},
		{"(ask " + unions("w", 100) + ")", api.ErrLarge},
		{"(view z " + unions("w", 100) + ")", api.ErrLarge},
		{"(explain " + unions("w", 100) + ")", api.ErrLarge},
	} {
		wantRefused(t, m, c.line, c.want)
	}
}

// A view's own plan counts for its Scan: v has 5 nodes and is 2 high.
func TestHowLargeAPlanOverViewsMayBe(t *testing.T) {
	m := settled(t)
	for line, want := range map[string]api.Errno{
		"(ask " + wrapped("(scan v)", api.MaxDepth-2) + ")":     api.OK,
		"(ask " + wrapped("(scan v)", api.MaxDepth-1) + ")":     api.ErrLarge,
		"(explain " + wrapped("(scan w)", api.MaxDepth-3) + ")": api.OK,
		"(explain " + wrapped("(scan w)", api.MaxDepth-2) + ")": api.ErrLarge,
		"(ask " + unions("v", 79) + ")":                         api.OK,
		"(ask " + unions("v", 80) + ")":                         api.ErrLarge,
		"(explain " + unions("u", 399) + ")":                    api.OK,
		"(explain " + unions("u", 400) + ")":                    api.ErrLarge,
	} {
		if r := m.Do(line); r.Err != want {
			t.Errorf("%s: error %d, not %d", briefly(line), r.Err, want)
		}
	}
}

func TestHowLongALineMayBe(t *testing.T) {
	m := settled(t)
	line := "(show u)" + strings.Repeat(" ", api.MaxLine-len("(show u)"))
	want(t, m, line, shown(kindsOf("i"), row(num(1)), row(num(2)), row(num(3))))
	wantRefused(t, m, line+" ", api.ErrLarge)
	wantRefused(t, m, strings.Repeat("(", api.MaxLine), api.ErrText)
	wantRefused(t, m, strings.Repeat("(", api.MaxLine+1), api.ErrLarge)
	wantRefused(t, m, "(add u "+strings.Repeat("()", (api.MaxLine-8)/2)+")", api.ErrArg)
	wantRefused(t, m, strings.Repeat("(", api.MaxLine/2)+strings.Repeat(")", api.MaxLine/2), api.ErrText)
}

func TestTextsOfTheGreatestLength(t *testing.T) {
	m := settled(t)
	long := strings.Repeat("y", api.MaxText)
	do(t, m, `(add t (9 "`+long+`"))`)
	want(t, m, "(ask (filter (eq #0 9) (scan v)))", shown(kindsOf("it"), row(num(9), text(long))))
	do(t, m, `(take t (9 "`+long+`"))`)
	do(t, m, `(add t (9 "`+strings.Repeat(`\ff`, api.MaxText)+`"))`)
	want(t, m, "(ask (filter (eq #0 9) (scan v)))", shown(kindsOf("it"), row(num(9), text(strings.Repeat("\xff", api.MaxText)))))
}

func TestHowManyColumnsThereMayBe(t *testing.T) {
	m := small(t)
	do(t, m, "(make t "+columnsOf(api.MaxColumns)+")", "(add t ("+strings.Repeat("1 ", api.MaxColumns)+"))", "(view v (scan t))")
	if r := m.Do("(show v)"); r.Count != 1 || len(r.Rows[0]) != api.MaxColumns || len(r.Kinds) != api.MaxColumns {
		t.Errorf("shown: %s", told(r))
	}
	wantRefused(t, m, "(ask (join 1 (scan t) (scan t)))", api.ErrArg)
}

func TestHowManyTablesThereMayBe(t *testing.T) {
	m := small(t)
	do(t, m, "(make t ((a int)))")
	for i := 1; i < api.MaxTables; i++ {
		name := "x" + strconv.Itoa(i)
		do(t, m, []string{"(make " + name + " ((a int)))", "(view " + name + " (scan t))"}[i%2])
	}
	wantRefused(t, m, "(make z ((a int)))", api.ErrLarge)
	wantRefused(t, m, "(view z (scan t))", api.ErrLarge)
	wantRefused(t, m, "(view z (scan nowhere))", api.ErrLarge)
	wantRefused(t, m, "(make z ())", api.ErrArg)
	wantRefused(t, m, "(make t ((a int)))", api.ErrThere)
	wantRefused(t, m, "(view x1 (scan nowhere))", api.ErrThere)
	do(t, m, "(add t (1))", "(drop x1)")
	wantRefused(t, m, "(view z (scan nowhere))", api.ErrAbsent)
	do(t, m, "(view z (scan t))")
	wantRefused(t, m, "(make y ((a int)))", api.ErrLarge)
	do(t, m, "(drop x2)", "(make y ((a int)))")
	want(t, m, "(show x3)", shown(kindsOf("i"), row(num(1))))
}

func TestHowManyRowsThereMayBe(t *testing.T) {
	const most = 1 << 20
	m := machine(t, api.MaxRows, api.MaxBatch, api.MaxBudget)
	do(t, m, "(make t ((a int)))", "(make u ((a int)))", "(view v (group (0) ((countall 0)) (scan t)))")
	line := func(word string, count int) string { return "(" + word + " t" + strings.Repeat("(1)", count) + ")" }
	for left := most - 1; left > 0; {
		some := min(left, 6000)
		want(t, m, line("add", some), api.Result{Count: some})
		left -= some
	}
	wantAll := func(count int64) {
		t.Helper()
		want(t, m, "(show v)", shown(kindsOf("ii"), row(num(1), num(count))))
	}
	want(t, m, line("add", 2), api.Result{Err: api.ErrLarge})
	want(t, m, "(add t (1) (1 1))", api.Result{Err: api.ErrArg})
	wantAll(most - 1)
	want(t, m, line("add", 1), api.Result{Count: 1})
	wantAll(most)
	want(t, m, line("add", 1), api.Result{Err: api.ErrLarge})
	want(t, m, "(add t)", api.Result{})
	want(t, m, "(add u (1))", api.Result{Count: 1})
	want(t, m, line("take", 6000), api.Result{Count: 6000})
	wantAll(most - 6000)
	want(t, m, line("add", 6001), api.Result{Err: api.ErrLarge})
	want(t, m, line("add", 6000), api.Result{Count: 6000})
	want(t, m, "(merge t)", api.Result{Count: most / api.MaxRows})
	wantAll(most)
	want(t, m, "(ask (group (0) ((countall 0)) (scan t)))", shown(kindsOf("ii"), row(num(1), num(most))))
}

// Lines of tokens in any order end, and those that are refused change nothing.
func TestLinesOfAnyTokens(t *testing.T) {
	m := settled(t)
	random := rand.New(rand.NewSource(5))
	tokens := strings.Fields(`( ( ( ) ) ) make add take view drop show ask explain merge t u v w z a b int text null 1 -7 #0 #1 "x" "" scan filter union gt distinct`)
	words := tokens[6:15]
	for range 10000 {
		line := "(" + words[random.Intn(len(words))]
		for range random.Intn(9) {
			line += " " + tokens[random.Intn(len(tokens))]
		}
		line += strings.Repeat(")", strings.Count(line, "(")-min(strings.Count(line, "("), strings.Count(line, ")")))
		before := state(m)
		r := m.Do(line)
		if r.Err != api.OK && (!sameResult(r, api.Result{Err: r.Err}) || state(m) != before) {
			t.Fatalf("%s: %s; it was %s and is %s", line, told(r), before, state(m))
		}
	}
}
