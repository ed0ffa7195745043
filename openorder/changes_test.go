package openorder

import (
	"go/ast"
	"go/token"
	"go/types"
	"maps"
	"strings"
)

// function of the program, or a function literal: the fields and the shared
// variables that may be other ones when it has been called.
type function struct {
	body    *ast.BlockStmt
	calls   set[*function]
	changes set[*types.Var]
}

// find all functions, and what a call of each may change.
func (p *program) find() {
	for _, file := range p.files {
		ast.Inspect(file, p.note)
	}
	for _, f := range p.functions {
		p.follow(f)
	}
	for p.handOn() {
	}
}

// handOn what a function may change to those that call it; false, if all of
// them know it.
func (p *program) handOn() bool {
	more := false
	for _, f := range p.functions {
		before := len(f.changes)
		for called := range f.calls {
			maps.Copy(f.changes, called.changes)
		}
		more = more || len(f.changes) > before
	}
	return more
}

func (p *program) newFunction(body *ast.BlockStmt) *function {
	f := &function{body: body, calls: set[*function]{}, changes: set[*types.Var]{}}
	p.functions = append(p.functions, f)
	return f
}

// note the functions and the shared variables at a node.
func (p *program) note(n ast.Node) bool {
	switch n := n.(type) {
	case *ast.FuncDecl:
		is := p.info.Defs[n.Name].(*types.Func)
		p.declared[is] = p.newFunction(n.Body)
		if is.Signature().Recv() != nil {
			p.methods[is.Name()] = append(p.methods[is.Name()], p.declared[is])
		}
	case *ast.FuncLit:
		p.literals[n] = p.newFunction(n.Body)
		p.shareWithin(n)
	case *ast.CallExpr:
		p.callees.add(p.callee(n))
	case *ast.Ident:
		if is, _ := p.info.Uses[n].(*types.Func); is != nil && !p.callees.has(n) {
			p.handed.add(is.Origin())
		}
	case *ast.UnaryExpr:
		if n.Op == token.AND {
			p.share(n.X)
		}
	case *ast.SelectorExpr:
		// A method may be called with the address of what it stands behind.
		if p.info.Selections[n] != nil && p.field(n) == nil {
			p.share(n.X)
		}
	}
	return true
}

// callee: the name by which a call names its function; nil, if it has none.
func (p *program) callee(c *ast.CallExpr) *ast.Ident {
	fun := ast.Unparen(c.Fun)
	if instance, is := fun.(*ast.IndexExpr); is && isA[*types.Signature](p, instance.X) {
		fun = instance.X
	}
	switch fun := fun.(type) {
	case *ast.Ident:
		return fun
	case *ast.SelectorExpr:
		return fun.Sel
	}
	return nil
}

// shareWithin: the variables that a literal uses and that are not its own.
func (p *program) shareWithin(literal *ast.FuncLit) {
	ast.Inspect(literal.Body, func(n ast.Node) bool {
		if name, is := n.(*ast.Ident); is {
			if v := p.variable(name); v != nil && (v.Pos() < literal.Pos() || v.Pos() > literal.End()) {
				p.shared.add(v)
			}
		}
		return true
	})
}

// share the variable that e is a part of.
func (p *program) share(e ast.Expr) {
	switch e := ast.Unparen(e).(type) {
	case *ast.Ident:
		if v := p.variable(e); v != nil {
			p.shared.add(v)
		}
	case *ast.SelectorExpr:
		p.share(e.X)
	case *ast.IndexExpr:
		p.share(e.X)
	}
}

// follow a function: what it changes itself, and which others it calls.
func (p *program) follow(f *function) {
	ast.Inspect(f.body, func(n ast.Node) bool {
		switch n := n.(type) {
		case *ast.FuncLit:
			return false
		case *ast.AssignStmt:
			for _, to := range n.Lhs {
				p.change(to, f.changes)
			}
		case *ast.IncDecStmt:
			p.change(n.X, f.changes)
		case *ast.RangeStmt:
			p.change(n.Key, f.changes)
			p.change(n.Value, f.changes)
			f.calls.addAll(p.likely(n.X))
		case *ast.CallExpr:
			called, changed := p.called(n)
			f.calls.addAll(called)
			for _, e := range changed {
				p.change(e, f.changes)
			}
		}
		return true
	})
}

// change of what is assigned to: with an element changes what holds it.
func (p *program) change(to ast.Expr, changes set[*types.Var]) {
	if to == nil || !p.isFar(to) {
		return
	}
	switch to := ast.Unparen(to).(type) {
	case *ast.Ident:
		// A variable that begins here is none that was there before.
		if p.info.Defs[to] == nil {
			changes.add(p.variable(to))
		}
	case *ast.SelectorExpr:
		changes.add(p.field(to))
		if !isA[*types.Pointer](p, to.X) {
			p.change(to.X, changes)
		}
	case *ast.IndexExpr:
		p.change(to.X, changes)
	case *ast.StarExpr:
		// Whoever has a pointer to it sees all of its fields change.
		changes.addAll(fieldsOf(p.info.TypeOf(to)))
	}
}

// fieldsOf a struct, and of the structs in it.
func fieldsOf(t types.Type) []*types.Var {
	var fields []*types.Var
	switch t := t.Underlying().(type) {
	case *types.Struct:
		for field := range t.Fields() {
			fields = append(append(fields, field.Origin()), fieldsOf(field.Type())...)
		}
	case *types.Array:
		fields = fieldsOf(t.Elem())
	}
	return fields
}

// called: the functions that a call may call, and, where it calls none of the
// program's, what it changes nevertheless.
func (p *program) called(c *ast.CallExpr) ([]*function, []ast.Expr) {
	if literal, is := ast.Unparen(c.Fun).(*ast.FuncLit); is {
		return []*function{p.literals[literal]}, nil
	}
	switch is := p.info.Uses[p.callee(c)].(type) {
	case *types.Builtin:
		return nil, changedBy(is.Name(), c.Args)
	case *types.TypeName:
		return nil, nil
	case *types.Func:
		return p.calledByName(is.Origin(), c)
	}
	return p.likely(c.Fun), nil
}

func (p *program) calledByName(is *types.Func, c *ast.CallExpr) ([]*function, []ast.Expr) {
	if known := p.declared[is]; known != nil {
		return []*function{known}, nil
	}
	owner := is.Signature().Recv()
	if owner == nil {
		return p.calledFor(c.Args), changedBy(is.Name(), c.Args)
	}
	if types.IsInterface(owner.Type()) {
		return p.methods[is.Name()], nil
	}
	// What a pointer points to changes, which is the library's own; it does not.
	of := ast.Unparen(c.Fun).(*ast.SelectorExpr).X
	if isA[*types.Pointer](p, of) {
		return p.calledFor(c.Args), nil
	}
	return p.calledFor(c.Args), []ast.Expr{of}
}

// calledFor: what the library may call when it is handed this.
func (p *program) calledFor(args []ast.Expr) []*function {
	var called []*function
	for _, arg := range args {
		called = append(called, p.likely(arg)...)
		for method := range types.NewMethodSet(p.info.TypeOf(arg)).Methods() {
			if known := p.declared[method.Obj().(*types.Func).Origin()]; known != nil {
				called = append(called, known)
			}
		}
	}
	return called
}

// changedBy a function that is not the program's: what it sorts or clears, and
// what it is told the address of.
func changedBy(name string, args []ast.Expr) []ast.Expr {
	if name == "copy" || name == "clear" || name == "delete" || name == "Reverse" || strings.HasPrefix(name, "Sort") {
		return args[:1]
	}
	var changed []ast.Expr
	for _, arg := range args {
		if address, is := ast.Unparen(arg).(*ast.UnaryExpr); is && address.Op == token.AND {
			changed = append(changed, address.X)
		}
	}
	return changed
}

// likely: the functions that a value may be, by how much they take and answer;
// none, if it is no function.
func (p *program) likely(value ast.Expr) []*function {
	of, is := p.info.TypeOf(value).Underlying().(*types.Signature)
	if !is {
		return nil
	}
	var likely []*function
	for literal, f := range p.literals {
		if sizes(p.info.TypeOf(literal).(*types.Signature)) == sizes(of) {
			likely = append(likely, f)
		}
	}
	for handed := range p.handed {
		if f := p.declared[handed]; f != nil && sizes(handed.Signature()) == sizes(of) {
			likely = append(likely, f)
		}
	}
	return likely
}

func sizes(s *types.Signature) [2]int { return [2]int{s.Params().Len(), s.Results().Len()} }
