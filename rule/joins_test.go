package rule_test

import "testing"

func TestRule9(t *testing.T) {
	all(t, 9, []given{
		{"(join (and #0 #2) (scan t) (scan u))", "(filter #2 (join #0 (scan t) (scan u)))"},
		{"(join (and #0 (and #2 (eq #1 #2))) (scan t) (scan u))", "(filter (and #2 (eq #1 #2)) (join #0 (scan t) (scan u)))"},
		{"(join #0 (scan t) (scan u))", ""},
		{"(leftjoin (and #0 #2) (scan t) (scan u))", ""},
		{"(filter (and #0 #1) (scan t))", ""},
		{"(filter (and #0 #1) (join 1 (scan t) (scan u)))", ""},
	})
}

func TestRule10(t *testing.T) {
	all(t, 10, []given{
		{"(join (and (eq #0 #2) (gt #1 3)) (scan t) (scan u))", "(join (eq #0 #2) (filter (gt #1 3) (scan t)) (scan u))"},
		{"(join (and (and #2 #1) (and #0 (eq #0 #2))) (scan t) (scan u))", "(join (and (and #2 #0) (eq #0 #2)) (filter #1 (scan t)) (scan u))"},
		{"(join #0 (scan t) (scan u))", "(join 1 (filter #0 (scan t)) (scan u))"},
		// Of two that are the same the first one goes.
		{"(join (and (and #1 #2) #1) (scan t) (scan u))", "(join (and #2 #1) (filter #1 (scan t)) (scan u))"},
		{"(join #2 (scan t) (scan u))", ""},
		{"(join (eq #1 #2) (scan t) (scan u))", ""},
		{"(join (or #0 (and #1 #2)) (scan t) (scan u))", ""},
		// A part without columns uses none of the others.
		{"(join (and #2 0) (scan t) (scan u))", "(join #2 (filter 0 (scan t)) (scan u))"},
		{"(leftjoin #0 (scan t) (scan u))", ""},
		{"(filter #0 (scan t))", ""},
	})
}

func TestRule11(t *testing.T) {
	all(t, 11, []given{
		{"(leftjoin (gt #2 3) (scan t) (scan u))", "(leftjoin 1 (scan t) (filter (gt #0 3) (scan u)))"},
		{"(join (and (eq #0 #2) (and (lt #2 #3) #3)) (scan t) (scan t))", "(join (and (eq #0 #2) #3) (scan t) (filter (lt #0 #1) (scan t)))"},
		{"(leftjoin (and (and #0 #3) (eq #0 #2)) (scan t) (scan t))", "(leftjoin (and #0 (eq #0 #2)) (scan t) (filter #1 (scan t)))"},
		{"(join #0 (scan t) (scan u))", ""},
		{"(leftjoin (eq #1 #2) (scan t) (scan u))", ""},
		{"(leftjoin (and #0 0) (scan t) (scan u))", "(leftjoin #0 (scan t) (filter 0 (scan u)))"},
		{"(filter #0 (scan t))", ""},
		{"(minus (scan t) (scan t))", ""},
	})
}

func TestRule17(t *testing.T) {
	all(t, 17, []given{
		{"(join (eq #0 #2) (scan t) (scan u))", "(project (#1 #2 #0) (join (eq #1 #0) (scan u) (scan t)))"},
		{"(join (and (lt #1 #3) (isnull #5)) (scan w) (scan v))", "(project (#3 #4 #5 #0 #1 #2) (join (and (lt #4 #0) (isnull #2)) (scan v) (scan w)))"},
		{"(join 1 (scan u) (scan w))", "(project (#3 #0 #1 #2) (join 1 (scan w) (scan u)))"},
		{"(leftjoin (eq #0 #2) (scan t) (scan u))", ""},
		{"(minus (scan t) (scan t))", ""},
		{"(filter 1 (join 1 (scan u) (scan w)))", ""},
	})
}

func TestRule18(t *testing.T) {
	all(t, 18, []given{
		{"(join (eq #1 #3) (join #0 (scan u) (scan t)) (scan u))", "(join #0 (scan u) (join (eq #0 #2) (scan t) (scan u)))"},
		{"(join (lt #3 #2) (join (eq #0 #2) (scan t) (scan u)) (scan u))", "(join (eq #0 #2) (scan t) (join (lt #1 #0) (scan u) (scan u)))"},
		{"(join 1 (join #1 (scan t) (scan u)) (scan u))", "(join #1 (scan t) (join 1 (scan u) (scan u)))"},
		{"(join (eq #1 #3) (join #0 (scan t) (scan u)) (scan u))", ""},
		{"(join (and #3 #0) (join #0 (scan u) (scan t)) (scan u))", ""},
		{"(leftjoin (eq #1 #3) (join #0 (scan u) (scan t)) (scan u))", ""},
		{"(join (eq #1 #3) (leftjoin #0 (scan u) (scan t)) (scan u))", ""},
		{"(join #1 (scan u) (join #0 (scan u) (scan t)))", ""},
		{"(filter #1 (join #0 (scan u) (scan t)))", ""},
	})
}

func TestRule19(t *testing.T) {
	all(t, 19, []given{
		{"(join #0 (scan u) (join (eq #0 #2) (scan t) (scan u)))", "(join (eq #1 #3) (join #0 (scan u) (scan t)) (scan u))"},
		{"(join (eq #0 #2) (scan u) (join (lt #2 #0) (scan t) (scan w)))", "(join (lt #3 #1) (join (eq #0 #2) (scan u) (scan t)) (scan w))"},
		{"(join 1 (scan t) (join 1 (scan u) (scan u)))", "(join 1 (join 1 (scan t) (scan u)) (scan u))"},
		{"(join (eq #0 #3) (scan u) (join (eq #0 #2) (scan t) (scan u)))", ""},
		{"(leftjoin #0 (scan u) (join (eq #0 #2) (scan t) (scan u)))", ""},
		{"(join #0 (scan u) (leftjoin (eq #0 #2) (scan t) (scan u)))", ""},
		{"(join #0 (join #0 (scan u) (scan u)) (scan t))", ""},
		{"(minus (scan t) (join 1 (scan u) (scan u)))", ""},
	})
}

// TestWideJoins: columns up to the last one that there may be.
func TestWideJoins(t *testing.T) {
	wide := func(count int) string { return "(project (" + repeated("#0 ", count-1) + "#0) (scan u))" }
	becomes(t, 7, "(filter (eq #31 #15) (join 1 "+wide(15)+" "+wide(17)+"))", nil, "(join 1 "+wide(15)+" (filter (eq #16 #0) "+wide(17)+"))")
	becomes(t, 7, "(filter #31 (join 1 "+wide(31)+" (scan u)))", nil, "(join 1 "+wide(31)+" (filter #0 (scan u)))")
	becomes(t, 11, "(leftjoin #31 "+wide(31)+" (scan u))", nil, "(leftjoin 1 "+wide(31)+" (filter #0 (scan u)))")
	becomes(t, 18, "(join #31 (join 1 "+wide(30)+" (scan u)) (scan u))", nil, "(join 1 "+wide(30)+" (join #1 (scan u) (scan u)))")
	becomes(t, 19, "(join #29 "+wide(30)+" (join #1 (scan u) (scan u)))", nil, "(join #31 (join #29 "+wide(30)+" (scan u)) (scan u))")
}
