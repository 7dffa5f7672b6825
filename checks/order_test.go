package checks

import (
	"go/ast"
	"go/importer"
	"go/parser"
	"go/token"
	"go/types"
	"testing"
)

// TestOrder: the language leaves open whether a variable is read ahead of a call in the same statement, or behind it. So none is read there that a function literal assigns, which the call may call.
func TestOrder(t *testing.T) {
	w := waysLook{root: "..", module: "lodger", fset: token.NewFileSet(), packs: map[string]*waysPack{}, info: &types.Info{Types: map[ast.Expr]types.TypeAndValue{}, Uses: map[*ast.Ident]types.Object{}}}
	w.std = importer.ForCompiler(w.fset, "source", nil)
	for _, l := range layers {
		p, err := w.load("lodger/" + l.name)
		if err != nil {
			t.Fatal(err)
		}
		for _, f := range p.files {
			looked := order{info: w.info, assigned: assignedWithin(f, w.info)}
			for _, i := range looked.wrong(f) {
				t.Errorf("%s: %s is read beside a call that may assign it", w.fset.Position(i.Pos()), i.Name)
			}
		}
	}
}

// TestOrderIsSeen: the look finds what it is to find, and nothing else.
func TestOrderIsSeen(t *testing.T) {
	for _, c := range []struct {
		body  string
		count int
	}{
		{"return call(), told", 1},
		{"x, y := told, call(); return x, y", 1},
		{"var x, y = call(), told; return x, y", 1},
		{"return pair{call(), told}.a, 0", 1},
		{"return sum(call(), told), 0", 1},
		{"return call() + told, 0", 1},
		{"told += call(); return told, 0", 1},
		{"return list[told:][call()], 0", 1},
		{"x := call(); return x, told", 0},
		{"told = call(); return told, 0", 0},
		{"return len(list), told", 0},
		{"return int(byte(n)), told", 0},
		{"return call(), n", 0},
		{"if call() > 0 && told > 0 { return 1, 1 }; return 0, told", 0},
		{"f := func() int { return told }; return call(), f()", 0},
		{"return sum(told, n), 0", 0},
	} {
		source := "package p; type pair struct { a, b int }; func sum(a, b int) int { return a + b }; func f(n int, list []int) (int, int) { told := 0; call := func() int { told++; return 1 }; _ = call; " + c.body + " }"
		fset := token.NewFileSet()
		f, err := parser.ParseFile(fset, "p.go", source, 0)
		if err != nil {
			t.Fatal(err)
		}
		info := &types.Info{Types: map[ast.Expr]types.TypeAndValue{}, Uses: map[*ast.Ident]types.Object{}}
		if _, err := (&types.Config{}).Check("p", fset, []*ast.File{f}, info); err != nil {
			t.Fatalf("%s: %v", c.body, err)
		}
		looked := order{info: info, assigned: assignedWithin(f, info)}
		if got := looked.wrong(f); len(got) != c.count {
			t.Errorf("%s: %d are wrong, not %d", c.body, len(got), c.count)
		}
	}
}

// assignedWithin are the variables that a function literal assigns, though they are declared ahead of it. One that is deferred at once runs when all statements are over.
func assignedWithin(f *ast.File, info *types.Info) map[types.Object]bool {
	deferred, out := map[ast.Node]bool{}, map[types.Object]bool{}
	ast.Inspect(f, func(n ast.Node) bool {
		switch x := n.(type) {
		case *ast.DeferStmt:
			deferred[x.Call.Fun] = true
		case *ast.FuncLit:
			if deferred[x] {
				return true
			}
			ast.Inspect(x, func(m ast.Node) bool {
				for _, e := range changed(m) {
					i, is := e.(*ast.Ident)
					if !is {
						continue
					}
					if v := info.Uses[i]; v != nil && (v.Pos() < x.Pos() || v.Pos() > x.End()) {
						out[v] = true
					}
				}
				return true
			})
		}
		return true
	})
	return out
}

// changed are what a statement assigns.
func changed(n ast.Node) []ast.Expr {
	switch x := n.(type) {
	case *ast.AssignStmt:
		return x.Lhs
	case *ast.IncDecStmt:
		return []ast.Expr{x.X}
	}
	return nil
}

// order looks for what is read beside a call.
type order struct {
	info     *types.Info
	assigned map[types.Object]bool
}

func (o order) wrong(f *ast.File) []*ast.Ident {
	var out []*ast.Ident
	ast.Inspect(f, func(n ast.Node) bool {
		switch x := n.(type) {
		case *ast.AssignStmt:
			sides := append([]ast.Expr{}, x.Rhs...)
			for _, e := range x.Lhs {
				if _, is := e.(*ast.Ident); !is || x.Tok != token.ASSIGN && x.Tok != token.DEFINE {
					sides = append(sides, e)
				}
			}
			out = append(out, o.beside(sides)...)
		case *ast.ReturnStmt:
			out = append(out, o.beside(x.Results)...)
		case *ast.ValueSpec:
			out = append(out, o.beside(x.Values)...)
		case *ast.CallExpr:
			out = append(out, o.beside(append([]ast.Expr{x.Fun}, x.Args...))...)
		case *ast.CompositeLit:
			out = append(out, o.beside(x.Elts)...)
		case *ast.BinaryExpr:
			if x.Op != token.LAND && x.Op != token.LOR {
				out = append(out, o.beside([]ast.Expr{x.X, x.Y})...)
			}
		case *ast.IndexExpr:
			out = append(out, o.beside([]ast.Expr{x.X, x.Index})...)
		}
		return true
	})
	return out
}

// beside are the variables in one of some expressions while there is a call in another one.
func (o order) beside(l []ast.Expr) []*ast.Ident {
	var out []*ast.Ident
	for i, e := range l {
		for j, other := range l {
			if i != j && o.calls(other) {
				out = append(out, o.reads(e)...)
				break
			}
		}
	}
	return out
}

// within goes through an expression, but for literals of functions: they run elsewhere.
func within(e ast.Expr, look func(ast.Node)) {
	ast.Inspect(e, func(n ast.Node) bool {
		if _, is := n.(*ast.FuncLit); is {
			return false
		}
		look(n)
		return true
	})
}

func (o order) calls(e ast.Expr) bool {
	is := false
	within(e, func(n ast.Node) {
		if c, isCall := n.(*ast.CallExpr); isCall {
			f := o.info.Types[c.Fun]
			is = is || !f.IsType() && !f.IsBuiltin()
		}
	})
	return is
}

func (o order) reads(e ast.Expr) []*ast.Ident {
	var out []*ast.Ident
	within(e, func(n ast.Node) {
		if i, is := n.(*ast.Ident); is && o.assigned[o.info.Uses[i]] {
			out = append(out, i)
		}
	})
	return out
}
