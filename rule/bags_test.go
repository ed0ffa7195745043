package rule_test

import (
	"math"
	"strconv"
	"testing"
)

func TestRule21(t *testing.T) {
	all(t, 21, []given{
		{"(distinct (distinct (scan t)))", "(distinct (scan t))"},
		{"(distinct (group (0) () (scan t)))", "(group (0) () (scan t))"},
		{"(distinct (group () ((countall 0)) (scan t)))", "(group () ((countall 0)) (scan t))"},
		{"(distinct (scan t))", ""},
		{"(distinct (filter 1 (distinct (scan t))))", ""},
		{"(group (0) () (distinct (scan t)))", ""},
		{"(filter 1 (distinct (scan t)))", ""},
	})
}

func TestRule22(t *testing.T) {
	all(t, 22, []given{
		{"(union (scan t))", "(scan t)"},
		{"(union (union (scan t) (scan t)))", "(union (scan t) (scan t))"},
		{"(union (scan t) (scan t))", ""},
		{"(distinct (scan t))", ""},
	})
}

func TestRule23(t *testing.T) {
	all(t, 23, []given{
		{"(union (union (scan t)))", "(union (scan t))"},
		{"(union (scan t) (union (distinct (scan t)) (filter 1 (scan t))) (filter 0 (scan t)))", "(union (scan t) (distinct (scan t)) (filter 1 (scan t)) (filter 0 (scan t)))"},
		{"(union (union (scan t) (union (scan t))) (union (scan t)))", "(union (scan t) (union (scan t)) (union (scan t)))"},
		{"(union (scan t) (scan t))", ""},
		{"(union (distinct (union (scan t))))", ""},
		{"(distinct (union (scan t)))", ""},
		{"(minus (union (scan t)) (scan t))", ""},
	})
}

func TestRule24(t *testing.T) {
	all(t, 24, []given{
		{"(top (0) 5 2 (top (0) 4 1 (scan t)))", "(top (0) 2 3 (scan t))"},
		{"(top (0) 1 2 (top (0) 4 1 (scan t)))", "(top (0) 1 3 (scan t))"},
		{"(top (0) 2 2 (top (0) 4 0 (scan t)))", "(top (0) 2 2 (scan t))"},
		{"(top ((desc 1) 0) 3 4 (top ((desc 1) 0) 4 0 (scan t)))", "(top ((desc 1) 0) 0 4 (scan t))"},
		{"(top ((desc 1) 0) 3 5 (top ((desc 1) 0) 4 0 (scan t)))", "(top ((desc 1) 0) 0 5 (scan t))"},
		{"(top () 0 0 (top () 0 0 (scan t)))", "(top () 0 0 (scan t))"},
		{"(top () 3 0 (top () 1 1 (scan t)))", "(top () 1 1 (scan t))"},
		{"(top (0) 5 2 (top (1) 4 1 (scan t)))", ""},
		{"(top (0) 5 2 (top ((desc 0)) 4 1 (scan t)))", ""},
		{"(top (0 1) 5 2 (top (1 0) 4 1 (scan t)))", ""},
		{"(top (0) 5 2 (top () 4 1 (scan t)))", ""},
		{"(top () 5 2 (top (0) 4 1 (scan t)))", ""},
		{"(top (0) 5 2 (filter 1 (top (0) 4 1 (scan t))))", ""},
		{"(top (0) 5 2 (scan t))", ""},
		{"(filter 1 (top (0) 4 1 (scan t)))", ""},
	})
}

func TestRule24WhereNumbersEnd(t *testing.T) {
	most := strconv.Itoa(math.MaxInt)
	nearly := strconv.Itoa(math.MaxInt - 1)
	all(t, 24, []given{
		{"(top () " + most + " 1 (top () " + most + " " + nearly + " (scan t)))", "(top () " + nearly + " " + most + " (scan t))"},
		{"(top () 3 " + nearly + " (top () " + most + " 1 (scan t)))", "(top () 1 " + most + " (scan t))"},
		{"(top () 3 " + most + " (top () 2 0 (scan t)))", "(top () 0 " + most + " (scan t))"},
		{"(top () 3 1 (top () 2 " + most + " (scan t)))", ""},
		{"(top () 3 " + most + " (top () 2 1 (scan t)))", ""},
		{"(top () 3 " + most + " (top () 2 " + most + " (scan t)))", ""},
	})
	all(t, 25, []given{
		{"(top () " + nearly + " 1 (union (scan t)))", "(top () " + nearly + " 1 (union (top () " + most + " 0 (scan t))))"},
		{"(top () 0 " + most + " (union (scan t)))", "(top () 0 " + most + " (union (top () " + most + " 0 (scan t))))"},
		{"(top () " + most + " 1 (union (scan t)))", ""},
		{"(top () 1 " + most + " (union (scan t)))", ""},
		{"(top () " + most + " " + most + " (union (scan t)))", ""},
	})
}

func TestRule25(t *testing.T) {
	all(t, 25, []given{
		{"(top (0) 1 2 (union (scan t) (distinct (scan t))))", "(top (0) 1 2 (union (top (0) 3 0 (scan t)) (top (0) 3 0 (distinct (scan t)))))"},
		{"(top ((desc 1)) 0 0 (union (scan t)))", "(top ((desc 1)) 0 0 (union (top ((desc 1)) 0 0 (scan t))))"},
		{"(top (0) 1 2 (scan t))", ""},
		{"(top (0) 1 2 (minus (scan t) (scan t)))", ""},
		{"(distinct (union (scan t)))", ""},
		{"(union (top (0) 1 2 (scan t)))", ""},
	})
}

func TestRule26(t *testing.T) {
	all(t, 26, []given{
		{"(filter null (scan t))", "(empty (int int))"},
		{"(filter 0 (scan v))", "(empty (int text text))"},
		{"(filter (and 1 (gt 1 2)) (scan x))", "(empty (text))"},
		{"(join (eq null null) (scan t) (scan x))", "(empty (int int text))"},
		{"(top (0) 0 3 (scan v))", "(empty (int text text))"},
		{"(top () 0 0 (project (null \"a\") (scan v)))", "(empty (int text))"},
		{"(filter 1 (scan t))", ""},
		{"(filter -1 (scan t))", ""},
		{"(filter (and 0 #0) (scan t))", ""},
		{"(filter (isnull #0) (scan t))", ""},
		{"(join 1 (scan t) (scan t))", ""},
		{"(join (and 0 #0) (scan t) (scan t))", ""},
		{"(leftjoin 0 (scan t) (scan t))", ""},
		{"(top () 1 0 (scan t))", ""},
		{"(project (0) (scan t))", ""},
		{"(window number 0 0 () () (scan t))", ""},
		{"(group () ((countall 0)) (scan t))", ""},
		{"(scan t)", ""},
		{"(empty (int))", ""},
	})
}

func TestRule27(t *testing.T) {
	all(t, 27, []given{
		{"(filter 1 (scan t))", "(scan t)"},
		{"(filter -7 (scan t))", "(scan t)"},
		{"(filter (isnull (add 1 null)) (filter 0 (scan t)))", "(filter 0 (scan t))"},
		{"(filter 0 (scan t))", ""},
		{"(filter null (scan t))", ""},
		{"(filter (or 1 #0) (scan t))", ""},
		{"(join 1 (scan t) (scan t))", ""},
		{"(project (1) (scan t))", ""},
		{"(top () 0 0 (scan t))", ""},
	})
}

func TestRule28(t *testing.T) {
	all(t, 28, []given{
		{"(filter #0 (empty (int text)))", "(empty (int text))"},
		{"(project (#1 (len #1) null) (empty (int text)))", "(empty (text int int))"},
		{"(distinct (empty (int text)))", "(empty (int text))"},
		{"(top (0) 5 0 (empty (int text)))", "(empty (int text))"},
		{"(window number 0 0 () () (empty (int text)))", "(empty (int text int))"},
		{"(window ahead 1 1 () () (empty (int text)))", "(empty (int text text))"},
		{"(group (1) ((countall 0)) (empty (int text)))", "(empty (text int))"},
		{"(group () ((countall 0)) (empty (int text)))", ""},
		{"(join #0 (scan t) (empty (text)))", "(empty (int int text))"},
		{"(join #0 (empty (int)) (scan x))", "(empty (int text))"},
		{"(join #0 (empty (int)) (empty (int)))", "(empty (int int))"},
		{"(leftjoin #0 (empty (int)) (scan x))", "(empty (int text))"},
		{"(leftjoin #0 (scan t) (empty (text)))", ""},
		{"(minus (empty (int int)) (scan t))", "(empty (int int))"},
		{"(minus (scan t) (empty (int int)))", ""},
		{"(union (empty (int int)))", "(empty (int int))"},
		{"(union (empty (int int)) (empty (int int)))", "(empty (int int))"},
		{"(union (empty (int int)) (scan t))", ""},
		{"(union (scan t) (empty (int int)))", ""},
		{"(filter #0 (distinct (empty (int))))", ""},
		{"(empty (int))", ""},
		{"(scan t)", ""},
		{"(join 1 (scan t) (scan t))", ""},
	})
}

func TestRule29(t *testing.T) {
	all(t, 29, []given{
		{"(union (scan t) (empty (int int)))", "(union (scan t))"},
		{"(union (empty (int int)) (scan t) (empty (int int)) (distinct (scan t)))", "(union (scan t) (empty (int int)) (distinct (scan t)))"},
		{"(union (empty (int)) (empty (int)))", "(union (empty (int)))"},
		{"(union (empty (int)))", ""},
		{"(union (scan t) (scan t))", ""},
		{"(union (scan t) (distinct (empty (int int))))", ""},
		{"(minus (scan t) (empty (int int)))", ""},
		{"(join 1 (scan t) (empty (int int)))", ""},
	})
}

func TestRule30(t *testing.T) {
	all(t, 30, []given{
		{"(minus (scan t) (empty (int int)))", "(scan t)"},
		{"(minus (empty (int)) (empty (int)))", "(empty (int))"},
		{"(minus (empty (int int)) (scan t))", ""},
		{"(minus (scan t) (distinct (empty (int int))))", ""},
		{"(leftjoin 1 (scan t) (empty (int int)))", ""},
		{"(union (scan t) (empty (int int)))", ""},
	})
}

func TestRule33(t *testing.T) {
	all(t, 33, []given{
		{"(filter (gt #0 (add 1 2)) (scan t))", "(filter (gt #0 3) (scan t))"},
		{"(filter (and #0 (gt 1 2)) (scan t))", "(filter 0 (scan t))"},
		{"(join (or #0 (not 0)) (scan t) (scan t))", "(join 1 (scan t) (scan t))"},
		{"(leftjoin (eq #0 (neg 3)) (scan t) (scan t))", "(leftjoin (eq #0 -3) (scan t) (scan t))"},
		{"(project (#0 (add 1 1) (mul #0 2) (len \"ab\")) (scan t))", "(project (#0 2 (mul #0 2) 2) (scan t))"},
		// What is always null is a column of numbers: no text goes over to it.
		{"(project ((cat \"a\" null)) (scan t))", ""},
		{"(project ((cat \"a\" null) (add 1 1)) (scan t))", "(project ((cat \"a\" null) 2) (scan t))"},
		{"(project ((if #0 (cat \"a\" null) null)) (scan t))", ""},
		{"(project ((if 1 null \"a\")) (scan t))", ""},
		{"(project ((if 1 (cat \"a\" \"b\") null)) (scan t))", "(project (\"ab\") (scan t))"},
		{"(project ((len (cat \"a\" null)) (cat #1 (cat \"a\" null))) (scan v))", "(project (null (cat #1 null)) (scan v))"},
		{"(project ((add 1 null) (if 1 null 5)) (scan t))", "(project (null null) (scan t))"},
		{"(filter (add 1 null) (scan t))", "(filter null (scan t))"},
		{"(join (eq null \"a\") (scan t) (scan t))", "(join null (scan t) (scan t))"},
		// Its own expressions alone.
		{"(filter #0 (filter (gt 1 2) (scan t)))", ""},
		{"(distinct (filter (gt 1 2) (scan t)))", ""},
		{"(filter (gt #0 3) (scan t))", ""},
		{"(filter 1 (scan t))", ""},
		{"(project (#0 \"a\" null) (scan t))", ""},
		{"(join (eq #2 \"a\") (scan t) (scan x))", ""},
		{"(join (and 1 (eq (cat #2 \"a\") (cat \"a\" \"a\"))) (scan t) (scan x))", "(join (and 1 (eq (cat #2 \"a\") \"aa\")) (scan t) (scan x))"},
		{"(scan t)", ""},
		{"(empty (int))", ""},
		{"(union (scan t) (scan t))", ""},
		{"(group (0) () (scan t))", ""},
	})
}
