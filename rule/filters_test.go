package rule_test

import "testing"

// given: what becomes of plans by one rule; "": it does not apply.
type given struct{ from, want string }

// all of them become so, alone and deep in another plan, in each Arg.
func all(t *testing.T, number int, cases []given) {
	t.Helper()
	for _, c := range cases {
		becomes(t, number, c.from, nil, c.want)
		becomes(t, number, twoIn(c.from, c.from), []int{0, 0, 0}, unless(c.want, twoIn(c.want, c.from)))
		becomes(t, number, twoIn(c.from, c.from), []int{0, 1, 0, 1}, unless(c.want, twoIn(c.from, c.want)))
	}
}

func twoIn(first, second string) string {
	return "(distinct (union (project (1) " + first + ") (project (1) (join 1 (scan u) " + second + "))))"
}

// unless the text is none.
func unless(none, text string) string {
	if none == "" {
		return ""
	}
	return text
}

func TestRule1(t *testing.T) {
	all(t, 1, []given{
		{"(filter (and #0 #1) (scan t))", "(filter #1 (filter #0 (scan t)))"},
		{"(filter (and #0 (and #1 (gt #0 2))) (scan t))", "(filter (and #1 (gt #0 2)) (filter #0 (scan t)))"},
		{"(filter (and (and #0 #1) (and (gt #0 2) 7)) (scan t))", "(filter (and (and #1 (gt #0 2)) 7) (filter #0 (scan t)))"},
		{"(filter (and (or #0 #1) (not (and #0 #1))) (scan t))", "(filter (not (and #0 #1)) (filter (or #0 #1) (scan t)))"},
		{"(filter (and null 1) (scan t))", "(filter 1 (filter null (scan t)))"},
		{"(filter (and #0 #0) (scan t))", "(filter #0 (filter #0 (scan t)))"},
		{"(filter #0 (scan t))", ""},
		{"(filter (or #0 #1) (scan t))", ""},
		{"(filter (not (and #0 #1)) (scan t))", ""},
		{"(project ((and #0 #1)) (scan t))", ""},
		{"(join (and #0 #1) (scan u) (scan u))", ""},
		{"(leftjoin (and #0 #1) (scan u) (scan u))", ""},
		{"(distinct (filter (and #0 #1) (scan t)))", ""},
		{"(scan t)", ""},
	})
}

func TestRule2(t *testing.T) {
	all(t, 2, []given{
		{"(filter (lt #0 5) (filter (gt #0 1) (scan t)))", "(filter (and (gt #0 1) (lt #0 5)) (scan t))"},
		{"(filter (and #0 #1) (filter (and 1 #0) (scan t)))", "(filter (and (and 1 #0) (and #0 #1)) (scan t))"},
		{"(filter 1 (filter null (filter #0 (scan t))))", "(filter (and null 1) (filter #0 (scan t)))"},
		{"(filter 1 (scan t))", ""},
		{"(filter 1 (distinct (filter 1 (scan t))))", ""},
		{"(distinct (filter 1 (scan t)))", ""},
		{"(project (#0) (filter 1 (scan t)))", ""},
		{"(empty (int))", ""},
	})
}

func TestRule3(t *testing.T) {
	all(t, 3, []given{
		{"(filter (gt #0 1) (project ((add #1 2)) (scan t)))", "(project ((add #1 2)) (filter (gt (add #1 2) 1) (scan t)))"},
		{"(filter (eq #1 (add #0 #0)) (project ((neg #1) #0 5) (scan t)))", "(project ((neg #1) #0 5) (filter (eq #0 (add (neg #1) (neg #1))) (scan t)))"},
		{"(filter (gt #0 1) (project (null) (scan t)))", "(project (null) (filter (gt null 1) (scan t)))"},
		{"(filter #0 (project (null) (scan t)))", "(project (null) (filter null (scan t)))"},
		{"(filter (if #0 #0 #1) (project (null null) (scan t)))", "(project (null null) (filter (if null null null) (scan t)))"},
		{"(filter 1 (project (#0) (scan t)))", "(project (#0) (filter 1 (scan t)))"},
		{"(filter (eq #0 \"a\") (project ((cat #1 #2)) (scan v)))", "(project ((cat #1 #2)) (filter (eq (cat #1 #2) \"a\") (scan v)))"},
		{"(filter #0 (scan t))", ""},
		{"(filter #0 (distinct (project (#0) (scan t))))", ""},
		{"(project (#0) (project (#0) (scan t)))", ""},
		{"(project (#0) (filter 1 (scan t)))", ""},
	})
}

func TestRule3AppliesWhilePutTakesIt(t *testing.T) {
	high := func(count int) string { return repeated("(neg ", count) + "#0" + repeated(")", count) }
	// High 20 and 21: 40 in all, since one column goes.
	from := "(filter " + high(19) + " (project (" + high(20) + ") (scan t)))"
	becomes(t, 3, from, nil, "(project ("+high(20)+") (filter "+high(39)+" (scan t)))")
	becomes(t, 3, "(filter "+high(20)+" (project ("+high(20)+") (scan t)))", nil, "")
}

func TestRules4And5And14(t *testing.T) {
	all(t, 4, []given{
		{"(filter #0 (union (scan t)))", "(union (filter #0 (scan t)))"},
		{"(filter (gt #0 1) (union (scan t) (distinct (scan t)) (empty (int int))))", "(union (filter (gt #0 1) (scan t)) (filter (gt #0 1) (distinct (scan t))) (filter (gt #0 1) (empty (int int))))"},
		{"(filter #0 (minus (scan t) (scan t)))", ""},
		{"(filter #0 (distinct (scan t)))", ""},
		{"(distinct (union (scan t)))", ""},
		{"(union (filter #0 (scan t)))", ""},
	})
	all(t, 5, []given{
		{"(filter (gt #0 1) (distinct (scan t)))", "(distinct (filter (gt #0 1) (scan t)))"},
		{"(filter #0 (union (distinct (scan t))))", ""},
		{"(filter #0 (minus (distinct (scan t)) (scan t)))", ""},
		{"(distinct (distinct (scan t)))", ""},
		{"(distinct (filter #0 (scan t)))", ""},
	})
	all(t, 14, []given{
		{"(filter (gt #0 1) (minus (scan t) (distinct (scan t))))", "(minus (filter (gt #0 1) (scan t)) (filter (gt #0 1) (distinct (scan t))))"},
		{"(filter #0 (union (scan t) (scan t)))", ""},
		{"(filter #0 (distinct (minus (scan t) (scan t))))", ""},
		{"(distinct (minus (scan t) (scan t)))", ""},
	})
}

func TestRule6(t *testing.T) {
	all(t, 6, []given{
		{"(filter #1 (leftjoin 1 (scan t) (scan u)))", "(leftjoin 1 (filter #1 (scan t)) (scan u))"},
		{"(filter (gt #1 #0) (join (eq #2 #0) (scan t) (scan u)))", "(join (eq #2 #0) (filter (gt #1 #0) (scan t)) (scan u))"},
		{"(filter #2 (join 1 (scan t) (scan u)))", ""},
		{"(filter #2 (leftjoin 1 (scan t) (scan u)))", ""},
		{"(filter (eq #1 #2) (join 1 (scan t) (scan u)))", ""},
		{"(filter (eq #0 #1) (join 1 (scan u) (scan t)))", ""},
		// No column at all is none of the others.
		{"(filter 1 (join #0 (scan t) (scan u)))", "(join #0 (filter 1 (scan t)) (scan u))"},
		{"(filter null (leftjoin #0 (scan t) (scan u)))", "(leftjoin #0 (filter null (scan t)) (scan u))"},
		{"(filter #0 (minus (scan t) (scan t)))", ""},
		{"(filter #0 (distinct (join 1 (scan t) (scan u))))", ""},
		{"(project (#0) (join 1 (scan t) (scan u)))", ""},
	})
}

func TestRule7(t *testing.T) {
	all(t, 7, []given{
		{"(filter #2 (join 1 (scan t) (scan u)))", "(join 1 (scan t) (filter #0 (scan u)))"},
		{"(filter (gt #2 #4) (join (eq #0 #3) (scan t) (scan w)))", "(join (eq #0 #3) (scan t) (filter (gt #0 #2) (scan w)))"},
		{"(filter #1 (join 1 (scan t) (scan u)))", ""},
		{"(filter (gt #1 #2) (join 1 (scan t) (scan u)))", ""},
		{"(filter #2 (leftjoin 1 (scan t) (scan u)))", ""},
		{"(filter 0 (join #0 (scan t) (scan u)))", "(join #0 (scan t) (filter 0 (scan u)))"},
		{"(filter 1 (leftjoin #0 (scan t) (scan u)))", ""},
		{"(filter #0 (minus (scan t) (scan t)))", ""},
		{"(distinct (join 1 (scan t) (scan u)))", ""},
	})
}

func TestRule8(t *testing.T) {
	all(t, 8, []given{
		{"(filter #2 (join #0 (scan t) (scan u)))", "(join (and #0 #2) (scan t) (scan u))"},
		{"(filter (and #1 #2) (join (and #0 #1) (scan t) (scan u)))", "(join (and (and #0 #1) (and #1 #2)) (scan t) (scan u))"},
		{"(filter #2 (leftjoin #0 (scan t) (scan u)))", ""},
		{"(filter #0 (filter #1 (scan t)))", ""},
		{"(filter #0 (minus (scan t) (scan t)))", ""},
		{"(top () 1 0 (join #0 (scan t) (scan u)))", ""},
	})
}

func TestRule12(t *testing.T) {
	all(t, 12, []given{
		{"(filter (gt #0 1) (group (1) ((countall 0)) (scan t)))", "(group (1) ((countall 0)) (filter (gt #1 1) (scan t)))"},
		{"(filter (gt #1 #0) (group (2 0) ((sum 1)) (scan w)))", "(group (2 0) ((sum 1)) (filter (gt #0 #2) (scan w)))"},
		{"(filter (gt #1 #2) (group (2 0) ((sum 1)) (scan w)))", ""},
		{"(filter #2 (group (2 0) ((sum 1)) (scan w)))", ""},
		{"(filter #2 (group (0 1 2) () (scan w)))", "(group (0 1 2) () (filter #2 (scan w)))"},
		// Without Cols there is a row of no rows too.
		{"(filter #0 (group () ((countall 0)) (scan t)))", ""},
		{"(filter 0 (group () ((countall 0)) (scan t)))", ""},
		{"(filter 1 (group () ((countall 0)) (scan t)))", ""},
		// A condition without columns uses no others.
		{"(filter 0 (group (1) ((countall 0)) (scan t)))", "(group (1) ((countall 0)) (filter 0 (scan t)))"},
		{"(filter #0 (distinct (scan t)))", ""},
		{"(distinct (group (1) () (scan t)))", ""},
	})
}

func TestRule13(t *testing.T) {
	all(t, 13, []given{
		{"(filter (gt #1 1) (window number 0 0 (1) (0) (scan t)))", "(window number 0 0 (1) (0) (filter (gt #1 1) (scan t)))"},
		{"(filter (gt #0 #2) (window sumover 1 -1 (2 0) ((desc 1)) (scan w)))", "(window sumover 1 -1 (2 0) ((desc 1)) (filter (gt #0 #2) (scan w)))"},
		{"(filter (gt #0 #1) (window sumover 1 -1 (2 0) () (scan w)))", ""},
		{"(filter #0 (window number 0 0 (1) (0) (scan t)))", ""},
		{"(filter #2 (window number 0 0 (1) (0) (scan t)))", ""},
		{"(filter #0 (window number 0 0 () (0) (scan t)))", ""},
		{"(filter 0 (window number 0 0 () (0) (scan t)))", "(window number 0 0 () (0) (filter 0 (scan t)))"},
		{"(filter 1 (window rank 0 0 (0) () (scan t)))", "(window rank 0 0 (0) () (filter 1 (scan t)))"},
		{"(filter #0 (group (0) () (scan t)))", ""},
		{"(distinct (window number 0 0 (1) (0) (scan t)))", ""},
	})
}

func TestRule20(t *testing.T) {
	all(t, 20, []given{
		{"(filter (gt #2 0) (leftjoin (eq #0 #2) (scan t) (scan u)))", "(filter (gt #2 0) (join (eq #0 #2) (scan t) (scan u)))"},
		{"(filter (eq #1 #0) (leftjoin #0 (scan u) (scan t)))", "(filter (eq #1 #0) (join #0 (scan u) (scan t)))"},
		// Both columns of the second one count.
		{"(filter (or #1 #2) (leftjoin #0 (scan u) (scan t)))", "(filter (or #1 #2) (join #0 (scan u) (scan t)))"},
		{"(filter (or #0 #2) (leftjoin #0 (scan u) (scan t)))", ""},
		{"(filter (gt #1 0) (leftjoin (eq #0 #2) (scan t) (scan u)))", ""},
		{"(filter (isnull #2) (leftjoin 1 (scan t) (scan u)))", ""},
		{"(filter 0 (leftjoin 1 (scan t) (scan u)))", "(filter 0 (join 1 (scan t) (scan u)))"},
		{"(filter 1 (leftjoin 1 (scan t) (scan u)))", ""},
		{"(filter #2 (join 1 (scan t) (scan u)))", ""},
		{"(project (#2) (leftjoin 1 (scan t) (scan u)))", ""},
	})
}
