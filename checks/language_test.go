package checks

import (
	"bytes"
	"go/ast"
	"go/format"
	"go/parser"
	"go/token"
	"os"
	"path/filepath"
	"strconv"
	"strings"
	"testing"
)

// most is how many lines a function has at most: some 60.
const most = 64

// library is what the language allows of its library.
const library = " bytes cmp container/heap errors iter maps math math/bits slices sort strconv strings sync sync/atomic unicode unicode/utf8 "

// calls says for each layer which ones it may import beside api.
var calls = map[string]string{
	"wire": "", "frame": "", "sha": "", "mac": "sha", "path": "", "tally": "",
	"vfs": "path", "sess": "sha mac", "lex": "", "parse": "lex", "print": "lex parse", "ty": "",
	"sub": "ty", "store": "ty", "memo": "ty sub store", "names": "path ty", "infer": "ty names",
	"unit": "path parse ty names infer", "sums": "wire ty", "graph": "", "plan": "graph",
	"whole": "sub unit graph", "lru": "", "cache": "lru", "incr": "memo unit sums graph plan cache",
	"diag": "wire", "msg": "wire diag", "job": "path tally vfs sess ty incr msg cache memo", "queue": "",
	"server": "frame tally store memo cache msg job queue",
	"model":  "frame path tally vfs sess ty sub unit sums graph whole diag msg",
	"script": "", "desk": "frame msg server model script",
}

// sources are the program's files of one layer, without tests.
func sources(t *testing.T, layer string) []string {
	l, err := filepath.Glob(filepath.Join("..", layer, "*.go"))
	if err != nil || len(l) == 0 {
		t.Fatalf("%s: no files (%v)", layer, err)
	}
	var out []string
	for _, f := range l {
		if !strings.HasSuffix(f, "_test.go") {
			out = append(out, f)
		}
	}
	return out
}

func TestLanguage(t *testing.T) {
	for _, l := range layers {
		for _, f := range sources(t, l.name) {
			text, err := os.ReadFile(f)
			if err != nil {
				t.Fatal(err)
			}
			fset := token.NewFileSet()
			a, err := parser.ParseFile(fset, f, text, parser.ParseComments)
			if err != nil {
				t.Fatal(err)
			}
			layout(t, f, text, a)
			imports(t, f, l.name, a)
			lengths(t, f, fset, a)
			startingValues(t, f, a)
			shapes(t, f, a)
		}
	}
}

func layout(t *testing.T, f string, text []byte, a *ast.File) {
	if out, err := format.Source(text); err != nil || !bytes.Equal(out, text) {
		t.Errorf("%s: not in gofmt's layout", f)
	}
	for _, g := range a.Comments {
		for _, c := range g.List {
			if strings.HasPrefix(c.Text, "//go:") || strings.HasPrefix(c.Text, "// +build") {
				t.Errorf("%s: %s", f, c.Text)
			}
		}
	}
}

func imports(t *testing.T, f, layer string, a *ast.File) {
	for _, i := range a.Imports {
		p, _ := strconv.Unquote(i.Path.Value)
		own, is := strings.CutPrefix(p, "lodger/")
		if is && own != "api" && !strings.Contains(" "+calls[layer]+" ", " "+own+" ") {
			t.Errorf("%s: the map's row does not call %s", f, p)
		}
		if !is && !strings.Contains(library, " "+p+" ") {
			t.Errorf("%s: the language has no %s", f, p)
		}
	}
}

func lengths(t *testing.T, f string, fset *token.FileSet, a *ast.File) {
	ast.Inspect(a, func(n ast.Node) bool {
		if d, is := n.(*ast.FuncDecl); is {
			if n := fset.Position(d.End()).Line - fset.Position(d.Pos()).Line + 1; n > most {
				t.Errorf("%s: %s has %d lines", f, d.Name.Name, n)
			}
		}
		return true
	})
}

// startingValues looks at the variables of package level: each has a value that is written out, or is an error of one text.
func startingValues(t *testing.T, f string, a *ast.File) {
	for _, d := range a.Decls {
		g, is := d.(*ast.GenDecl)
		if !is || g.Tok != token.VAR {
			continue
		}
		for _, s := range g.Specs {
			v := s.(*ast.ValueSpec)
			if len(v.Values) != len(v.Names) {
				t.Errorf("%s: %s has no value of its own", f, v.Names[0])
			}
			for _, x := range v.Values {
				if !writtenOut(x) {
					t.Errorf("%s: %s is no short table", f, v.Names[0])
				}
			}
		}
	}
}

func writtenOut(x ast.Expr) bool {
	switch x := x.(type) {
	case *ast.BasicLit:
		return x.Kind != token.STRING && x.Kind != token.FLOAT
	case *ast.CompositeLit:
		_, is := x.Type.(*ast.MapType)
		return !is
	case *ast.CallExpr:
		s, is := x.Fun.(*ast.SelectorExpr)
		return is && s.Sel.Name == "New"
	}
	return false
}

// shapes looks for a recover that stands elsewhere than in a deferred function literal.
func shapes(t *testing.T, f string, a *ast.File) {
	deferred := map[*ast.FuncLit]bool{}
	var stack []ast.Node
	ast.Inspect(a, func(n ast.Node) bool {
		if n == nil {
			stack = stack[:len(stack)-1]
			return true
		}
		stack = append(stack, n)
		switch x := n.(type) {
		case *ast.DeferStmt:
			if l, is := x.Call.Fun.(*ast.FuncLit); is {
				deferred[l] = true
			}
		case *ast.CallExpr:
			if i, is := x.Fun.(*ast.Ident); is && i.Name == "recover" && !inside(stack, deferred) {
				t.Errorf("%s: a recover outside of a deferred literal", f)
			}
		}
		return true
	})
}

// inside: is the innermost function around a deferred literal?
func inside(stack []ast.Node, deferred map[*ast.FuncLit]bool) bool {
	for i := len(stack) - 1; i >= 0; i-- {
		if l, is := stack[i].(*ast.FuncLit); is {
			return deferred[l]
		}
	}
	return false
}
