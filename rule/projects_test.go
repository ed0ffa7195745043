package rule_test

import "testing"

func TestRule15(t *testing.T) {
	all(t, 15, []given{
		{"(project ((add #0 #1)) (project ((neg #1) 5) (scan t)))", "(project ((add (neg #1) 5)) (scan t))"},
		{"(project (#1 #0 #1) (project (#0 (cat #1 #2)) (scan v)))", "(project ((cat #1 #2) #0 (cat #1 #2)) (scan v))"},
		{"(project (#0 (isnull #0)) (project (null) (scan t)))", "(project (null (isnull null)) (scan t))"},
		{"(project (7) (project (#0) (scan t)))", "(project (7) (scan t))"},
		{"(project (#0) (scan t))", ""},
		{"(project (#0) (filter 1 (project (#0) (scan t))))", ""},
		{"(filter 1 (project (#0) (scan t)))", ""},
	})
}

func TestRule15AppliesWhilePutTakesEach(t *testing.T) {
	high := func(count int) string { return repeated("(neg ", count) + "#0" + repeated(")", count) }
	becomes(t, 15, "(project (#0 "+high(19)+") (project ("+high(20)+") (scan t)))", nil, "(project ("+high(20)+" "+high(39)+") (scan t))")
	becomes(t, 15, "(project (#0 "+high(20)+" #0) (project ("+high(20)+") (scan t)))", nil, "")
}

func TestRule16(t *testing.T) {
	all(t, 16, []given{
		{"(project (#0 #1) (scan t))", "(scan t)"},
		{"(project (#0) (scan u))", "(scan u)"},
		{"(project (#0 #1 #2) (join 1 (scan t) (scan u)))", "(join 1 (scan t) (scan u))"},
		{"(project (#0 #1) (project (#0 #1) (scan t)))", "(project (#0 #1) (scan t))"},
		{"(project (#0) (scan t))", ""},
		{"(project (#1 #0) (scan t))", ""},
		{"(project (#0 #1 #1) (scan t))", ""},
		{"(project (#0 #0) (scan t))", ""},
		{"(project (#0 (neg #1)) (scan t))", ""},
		{"(project (#0 1) (scan t))", ""},
		{"(distinct (scan t))", ""},
	})
}

func TestRule31(t *testing.T) {
	all(t, 31, []given{
		{"(project (#0) (join (eq #1 #2) (scan t) (scan t)))", "(project (#0) (join (eq #1 #2) (scan t) (project (#0) (scan t))))"},
		{"(project (#5 #1) (leftjoin (eq #2 #5) (scan w) (scan w)))", "(project (#2 #0) (leftjoin (eq #1 #2) (project (#1 #2) (scan w)) (project (#2) (scan w))))"},
		{"(project ((add #2 #4) 7) (join (lt #4 #0) (scan w) (scan t)))", "(project ((add #1 #2) 7) (join (lt #2 #0) (project (#0 #2) (scan w)) (project (#1) (scan t))))"},
		// Of a side of which none is used the first column is kept.
		{"(project (#0 #1) (join 1 (scan t) (scan w)))", "(project (#0 #1) (join 1 (scan t) (project (#0) (scan w))))"},
		{"(project (#3 #4) (leftjoin 1 (scan w) (scan t)))", "(project (#1 #2) (leftjoin 1 (project (#0) (scan w)) (scan t)))"},
		{"(project (1) (join 1 (scan t) (scan t)))", "(project (1) (join 1 (project (#0) (scan t)) (project (#0) (scan t))))"},
		{"(project (1) (join 1 (scan u) (scan u)))", ""},
		{"(project (1) (leftjoin 1 (scan t) (scan u)))", "(project (1) (leftjoin 1 (project (#0) (scan t)) (scan u)))"},
		{"(project (#0) (join (eq #1 #2) (scan t) (scan u)))", ""},
		{"(project (#0 #1 #2) (join 1 (scan t) (scan u)))", ""},
		{"(project (#0) (minus (scan t) (scan t)))", ""},
		{"(project (#0) (scan t))", ""},
		{"(filter #0 (join 1 (scan t) (scan t)))", ""},
	})
}

func TestRule32(t *testing.T) {
	all(t, 32, []given{
		{"(group (1) ((countall 0)) (scan t))", "(group (0) ((countall 0)) (project (#1) (scan t)))"},
		{"(group (2) ((sum 0) (countall 0)) (scan w))", "(group (1) ((sum 0) (countall 0)) (project (#0 #2) (scan w)))"},
		{"(group (2) ((sum 1) (least 2) (countall 0)) (scan w))", "(group (1) ((sum 0) (least 1) (countall 0)) (project (#1 #2) (scan w)))"},
		{"(group () ((most 2)) (scan v))", "(group () ((most 0)) (project (#2) (scan v)))"},
		{"(group () ((countall 0)) (scan t))", "(group () ((countall 0)) (project (#0) (scan t)))"},
		{"(group () ((countall 0) (countall 0)) (scan u))", ""},
		{"(group (1 0) () (scan t))", ""},
		{"(group (1 0) () (scan w))", "(group (1 0) () (project (#0 #1) (scan w)))"},
		{"(group (2 1) () (scan w))", "(group (1 0) () (project (#1 #2) (scan w)))"},
		{"(group (1) ((count 0)) (scan t))", ""},
		{"(group () ((sum 1) (counteach 1)) (scan t))", "(group () ((sum 0) (counteach 0)) (project (#1) (scan t)))"},
		{"(distinct (scan t))", ""},
		{"(window number 0 0 (1) () (scan t))", ""},
	})
}
