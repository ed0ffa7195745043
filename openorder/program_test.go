package openorder

import (
	"go/ast"
	"go/importer"
	"go/parser"
	"go/token"
	"go/types"
	"os"
	"path/filepath"
	"strings"
	"testing"
)

const module = "tallyhouse/"

// set of things.
type set[T comparable] map[T]struct{}

func (s set[T]) add(one T) { s[one] = struct{}{} }

func (s set[T]) addAll(list []T) {
	for _, one := range list {
		s.add(one)
	}
}

func (s set[T]) has(one T) bool {
	_, there := s[one]
	return there
}

// program: packages without their tests, and what is known of them.
type program struct {
	root     string
	lines    *token.FileSet
	library  types.Importer
	packages map[string]*types.Package
	files    []*ast.File
	info     types.Info

	functions []*function
	declared  map[*types.Func]*function
	literals  map[*ast.FuncLit]*function
	methods   map[string][]*function // by name
	callees   set[*ast.Ident]        // names that stand where a call names its function
	handed    set[*types.Func]       // functions that are handed about as values
	shared    set[*types.Var]        // variables that more than one function can reach
}

func newProgram(root string) *program {
	lines := token.NewFileSet()
	return &program{
		root:     root,
		lines:    lines,
		library:  importer.ForCompiler(lines, "source", nil),
		packages: map[string]*types.Package{},
		info: types.Info{
			Types:      map[ast.Expr]types.TypeAndValue{},
			Uses:       map[*ast.Ident]types.Object{},
			Defs:       map[*ast.Ident]types.Object{},
			Selections: map[*ast.SelectorExpr]*types.Selection{},
		},
		declared: map[*types.Func]*function{},
		literals: map[*ast.FuncLit]*function{},
		methods:  map[string][]*function{},
		callees:  set[*ast.Ident]{},
		handed:   set[*types.Func]{},
		shared:   set[*types.Var]{},
	}
}

// wholeProgram: all packages beneath a folder.
func wholeProgram(t *testing.T, root string) *program {
	t.Helper()
	folders, err := os.ReadDir(root)
	if err != nil {
		t.Fatal(err)
	}
	p := newProgram(root)
	for _, folder := range folders {
		if len(p.sources(folder.Name())) == 0 {
			continue
		}
		if _, err := p.Import(module + folder.Name()); err != nil {
			t.Fatal(err)
		}
	}
	p.find()
	return p
}

// smallProgram: one package, of one file with this text.
func smallProgram(t *testing.T, text string) *program {
	t.Helper()
	p := newProgram("")
	file, err := parser.ParseFile(p.lines, "small.go", "package small\n"+text, 0)
	if err != nil {
		t.Fatal(err)
	}
	if _, err := p.checked("small", []*ast.File{file}); err != nil {
		t.Fatal(err)
	}
	p.find()
	return p
}

// sources of a package: its files without its tests.
func (p *program) sources(name string) []string {
	all, _ := filepath.Glob(filepath.Join(p.root, name, "*.go"))
	var sources []string
	for _, file := range all {
		if !strings.HasSuffix(file, "_test.go") {
			sources = append(sources, file)
		}
	}
	return sources
}

// Import makes the program an importer for its own packages.
func (p *program) Import(path string) (*types.Package, error) {
	name, own := strings.CutPrefix(path, module)
	if !own {
		return p.library.Import(path)
	}
	if known := p.packages[path]; known != nil {
		return known, nil
	}
	var files []*ast.File
	for _, source := range p.sources(name) {
		file, err := parser.ParseFile(p.lines, source, nil, 0)
		if err != nil {
			return nil, err
		}
		files = append(files, file)
	}
	return p.checked(path, files)
}

func (p *program) checked(path string, files []*ast.File) (*types.Package, error) {
	config := types.Config{Importer: p}
	known, err := config.Check(path, p.lines, files, &p.info)
	p.packages[path] = known
	p.files = append(p.files, files...)
	return known, err
}

// variable that a name stands for; nil, if it stands for something else.
func (p *program) variable(name *ast.Ident) *types.Var {
	if v, is := p.info.ObjectOf(name).(*types.Var); is && !v.IsField() {
		return v
	}
	return nil
}

// field that a selector picks; nil, if it picks something else.
func (p *program) field(e *ast.SelectorExpr) *types.Var {
	if picked := p.info.Selections[e]; picked != nil && picked.Kind() == types.FieldVal {
		return picked.Obj().(*types.Var).Origin()
	}
	return nil
}

// isA: is the type that stands under e's one of this kind?
func isA[T types.Type](p *program, e ast.Expr) bool {
	of := p.info.TypeOf(e)
	if of == nil {
		return false
	}
	_, is := of.Underlying().(T)
	return is
}

// isFar: can e be reached by others than the function in which it stands: over
// a pointer, a slice or a map, or as a part of a shared variable?
func (p *program) isFar(e ast.Expr) bool {
	switch e := ast.Unparen(e).(type) {
	case *ast.Ident:
		v := p.variable(e)
		return v != nil && p.shared.has(v)
	case *ast.SelectorExpr:
		return p.field(e) != nil && (p.info.Selections[e].Indirect() || p.isFar(e.X))
	case *ast.IndexExpr:
		return !isA[*types.Array](p, e.X) || p.isFar(e.X)
	}
	return true
}
