package openorder

import (
	"go/ast"
	"go/token"
	"go/types"
	"maps"
	"math"
	"strconv"
)

// reading of fields or variables: calls are numbered in the order in which they
// are made, which the language lays down; of a reading it says no more than
// that it comes behind those calls that it needs, and ahead of those that need
// it.
type reading struct {
	what   ast.Expr
	of     []*types.Var
	behind int // the number of the last call that it must come behind
	ahead  int // the number of the first call that it must come ahead of
}

type calling struct {
	what    *ast.CallExpr
	number  int
	changes set[*types.Var]
}

// step of a function: what is worked out at once, without an order but that of
// the calls.
type step struct {
	*program
	readings []reading
	calls    []calling
	count    int // of calls, and of operators that are as good as one
}

// openPlaces: where something is read beside a call that may change it, and
// neither must come first.
func (p *program) openPlaces() []string {
	var places []string
	for _, f := range p.functions {
		ast.Inspect(f.body, func(n ast.Node) bool {
			for _, s := range p.steps(n) {
				places = append(places, s.openPlaces()...)
			}
			_, literal := n.(*ast.FuncLit)
			return !literal
		})
	}
	return places
}

// steps that a statement is carried out in, without those of other statements
// within it.
func (p *program) steps(n ast.Node) []*step {
	switch n := n.(type) {
	case *ast.AssignStmt:
		s := &step{program: p}
		for _, to := range n.Lhs {
			s.lookAtTarget(to)
			if n.Tok != token.ASSIGN && n.Tok != token.DEFINE {
				s.look(to)
			}
		}
		s.lookAll(n.Rhs)
		return []*step{s}
	case *ast.ExprStmt:
		return p.step(n.X)
	case *ast.ReturnStmt:
		return p.step(n.Results...)
	case *ast.IncDecStmt:
		return p.step(n.X)
	case *ast.SendStmt:
		return p.step(n.Chan, n.Value)
	case *ast.DeferStmt:
		return p.step(n.Call)
	case *ast.GoStmt:
		return p.step(n.Call)
	case *ast.IfStmt:
		return p.step(n.Cond)
	case *ast.ForStmt:
		return p.step(n.Cond)
	case *ast.RangeStmt:
		return p.step(n.X)
	case *ast.SwitchStmt:
		return p.step(n.Tag)
	case *ast.ValueSpec:
		return p.step(n.Values...)
	case *ast.CaseClause:
		var steps []*step
		for _, e := range n.List {
			steps = append(steps, p.step(e)...)
		}
		return steps
	}
	return nil
}

func (p *program) step(list ...ast.Expr) []*step {
	s := &step{program: p}
	s.lookAll(list)
	return []*step{s}
}

func (s *step) lookAll(list []ast.Expr) {
	for _, e := range list {
		s.look(e)
	}
}

// look at what is read and called in e.
func (s *step) look(e ast.Expr) {
	switch e := e.(type) {
	case *ast.Ident:
		if v := s.variable(e); v != nil && s.isFar(e) {
			s.read(e, append(fieldsOf(v.Type()), v))
		}
	case *ast.SelectorExpr:
		s.lookAtPicked(e)
	case *ast.IndexExpr:
		s.read(e, fieldsOf(s.info.TypeOf(e)), e.X, e.Index)
	case *ast.StarExpr:
		s.read(e, fieldsOf(s.info.TypeOf(e)), e.X)
	case *ast.SliceExpr:
		s.lookAll([]ast.Expr{e.X, e.Low, e.High, e.Max})
	case *ast.CallExpr:
		s.lookAtCall(e)
	case *ast.BinaryExpr:
		s.lookAtBoth(e)
	case *ast.UnaryExpr:
		if e.Op == token.AND {
			s.lookAtTarget(e.X)
		} else {
			s.look(e.X)
		}
	case *ast.CompositeLit:
		s.lookAll(e.Elts)
	case *ast.KeyValueExpr:
		s.lookAll([]ast.Expr{e.Key, e.Value})
	case *ast.ParenExpr:
		s.look(e.X)
	case *ast.TypeAssertExpr:
		s.look(e.X)
	}
}

// read e, behind all calls in its parts.
func (s *step) read(e ast.Expr, of []*types.Var, parts ...ast.Expr) {
	before, behind := s.count, -1
	s.lookAll(parts)
	if s.count > before {
		behind = s.count - 1
	}
	s.readings = append(s.readings, reading{what: e, of: of, behind: behind, ahead: math.MaxInt})
}

// lookAtPicked: a field; or a method, for which its owner is read, or only its
// address.
func (s *step) lookAtPicked(e *ast.SelectorExpr) {
	if field := s.field(e); field != nil {
		if s.isFar(e) {
			s.read(e, append(fieldsOf(field.Type()), field), e.X)
		} else {
			s.look(e.X)
		}
		return
	}
	picked := s.info.Selections[e]
	if picked == nil {
		return
	}
	if _, address := picked.Obj().(*types.Func).Signature().Recv().Type().(*types.Pointer); address && !isA[*types.Pointer](s.program, e.X) {
		s.lookAtTarget(e.X)
	} else {
		s.look(e.X)
	}
}

// lookAtTarget of an assignment, or at what the address is taken of: it is not
// read, but what tells where it is.
func (s *step) lookAtTarget(e ast.Expr) {
	switch e := ast.Unparen(e).(type) {
	case *ast.Ident:
	case *ast.SelectorExpr:
		if isA[*types.Pointer](s.program, e.X) {
			s.look(e.X)
		} else {
			s.lookAtTarget(e.X)
		}
	case *ast.IndexExpr:
		if isA[*types.Array](s.program, e.X) {
			s.lookAtTarget(e.X)
		} else {
			s.look(e.X)
		}
		s.look(e.Index)
	case *ast.StarExpr:
		s.look(e.X)
	default:
		s.look(e)
	}
}

// lookAtCall: what is read for it is read ahead of it.
func (s *step) lookAtCall(e *ast.CallExpr) {
	first := len(s.readings)
	s.look(e.Fun)
	s.lookAll(e.Args)
	if of := s.info.Types[e.Fun]; of.IsType() || of.IsBuiltin() {
		return
	}
	called, changed := s.called(e)
	changes := set[*types.Var]{}
	for _, f := range called {
		maps.Copy(changes, f.changes)
	}
	for _, what := range changed {
		s.change(what, changes)
	}
	s.calls = append(s.calls, calling{what: e, number: s.count, changes: changes})
	comeAhead(s.readings[first:], s.count)
	s.count++
}

func comeAhead(readings []reading, number int) {
	for i := range readings {
		readings[i].ahead = min(readings[i].ahead, number)
	}
}

func comeBehind(readings []reading, number int) {
	for i := range readings {
		readings[i].behind = max(readings[i].behind, number)
	}
}

// lookAtBoth sides: And and Or look at the second one only behind the first,
// and are in one row with the calls.
func (s *step) lookAtBoth(e *ast.BinaryExpr) {
	if e.Op != token.LAND && e.Op != token.LOR {
		s.lookAll([]ast.Expr{e.X, e.Y})
		return
	}
	first, before := len(s.readings), s.count
	s.look(e.X)
	second, between := len(s.readings), s.count
	comeAhead(s.readings[first:], between)
	s.look(e.Y)
	if between > before {
		comeBehind(s.readings[second:], between-1)
	}
	comeAhead(s.readings[first:], s.count)
	s.count++
}

func (s *step) openPlaces() []string {
	var places []string
	for _, r := range s.readings {
		for _, c := range s.calls {
			if c.number > r.behind && c.number < r.ahead && c.changesAny(r.of) {
				at := s.lines.Position(r.what.Pos())
				places = append(places, at.Filename+":"+strconv.Itoa(at.Line)+": "+types.ExprString(r.what)+" beside "+types.ExprString(c.what))
			}
		}
	}
	return places
}

func (c calling) changesAny(of []*types.Var) bool {
	for _, what := range of {
		if c.changes.has(what) {
			return true
		}
	}
	return false
}
