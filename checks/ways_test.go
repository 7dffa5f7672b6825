package checks

import (
	"go/importer"
	"go/token"
	"go/types"
	"strings"
	"testing"
)

// sharedLibrary is the library's packages, read once for all layers.
type sharedLibrary struct {
	fset     *token.FileSet
	importer types.Importer
}

// layers are the packages of the map with the ways that the document names for each, in the words of look_test.go.
var layers = []struct{ name, ways string }{
	{"wire", "range-function method-value three-index"},
	{"frame", "closure three-index"},
	{"sha", "array closure copy"},
	{"mac", "array closure copy"},
	{"path", "range-function panic defer recover"},
	{"tally", "closure range-integer variadic"},
	{"vfs", "map delete closure variadic"},
	{"sess", "closure range-integer array-compared"},
	{"lex", "map panic defer recover closure range-string"},
	{"parse", "map defer panic recover generic-function closure method-value"},
	{"print", "embedding promoted variadic closure map"},
	{"ty", "range-function closure generic-function"},
	{"sub", "fallthrough variadic closure"},
	{"store", "embedding map struct-compared closure delete method-value"},
	{"memo", "array array-compared map delete defer"},
	{"names", "closure map generic-function method-value"},
	{"infer", "method-value map defer"},
	{"unit", "method-value map generic-function closure"},
	{"sums", "embedding promoted generic-function method-value panic defer recover"},
	{"graph", "closure map delete generic-function"},
	{"plan", "interface interface-call map embedding"},
	{"whole", "map closure variadic"},
	{"lru", "generic-type map delete embedding promoted"},
	{"cache", "generic-type embedding promoted copy generic-function"},
	{"incr", "map embedding promoted function-field method-value struct-compared"},
	{"diag", "variadic closure array"},
	{"msg", "array constant-table variadic closure iota"},
	{"job", "method-expression map closure function-field"},
	{"queue", "array embedding promoted clear"},
	{"server", "method-value map closure array"},
	{"model", "method-expression map struct-compared array"},
	{"script", "method-expression map range-function panic defer recover"},
	{"desk", "variadic embedding promoted method-value map errors-as"},
}

// landed is how many layers, from the first one on, are built.
const landed = 33

func TestWays(t *testing.T) {
	fset := token.NewFileSet()
	std := sharedLibrary{fset, importer.ForCompiler(fset, "source", nil)}
	for _, l := range layers[:landed] {
		miss, err := waysMissing(std, "..", "lodger", []string{l.name}, strings.Fields(l.ways))
		if err != nil {
			t.Fatal(err)
		}
		for _, m := range miss {
			t.Errorf("%s: way missing: %s", l.name, m)
		}
	}
}
