package checks

import (
	"go/importer"
	"go/token"
	"go/types"
	"strings"
	"testing"
)

// sharedLibrary is the library's packages, read once for all layers.
type sharedLibrary struct {
	fset     *token.FileSet
	importer types.Importer
}

// layers are the packages of the map with the ways that the document names for each, in the words of look_test.go; of words with a | between one is enough.
var layers = []struct{ name, ways string }{
	{"wire", "range-function method-value three-index"},
	{"frame", "closure three-index"},
	{"sha", "array closure copy"},
	{"mac", "array closure copy"},
	{"path", "range-function panic defer recover"},
	{"tally", "closure range-integer variadic"},
	{"vfs", "map delete closure variadic"},
	{"sess", "closure range-integer array-compared|struct-compared"},
	{"lex", "map panic defer recover closure range-string"},
	{"parse", "map defer panic recover generic-function closure|method-value"},
	{"print", "embedding promoted variadic closure map"},
	{"ty", "range-function closure generic-function"},
	{"sub", "fallthrough variadic closure"},
	{"store", "embedding map struct-compared closure delete method-value"},
	{"memo", "array map delete defer"},
	{"names", "closure map generic-function method-value"},
	{"infer", "method-value map defer"},
	{"unit", "method-value map generic-function closure"},
	{"sums", "embedding generic-function method-value panic recover"},
	{"graph", "closure map delete generic-function"},
	{"plan", "interface|interface-call map embedding"},
	{"whole", "map closure variadic"},
	{"lru", "generic-type map delete embedding"},
	{"cache", "generic-type embedding copy generic-function"},
	{"incr", "map embedding function-field method-value struct-compared"},
	{"diag", "variadic closure array"},
	{"msg", "array variadic closure iota"},
	{"job", "method-expression map closure function-field"},
	{"queue", "array embedding clear"},
	{"server", "method-value map closure array"},
	{"model", "method-expression map struct-compared array"},
	{"script", "method-expression map range-function panic recover defer"},
	{"desk", "variadic embedding promoted method-value map errors-as"},
}

func TestWays(t *testing.T) {
	fset := token.NewFileSet()
	std := sharedLibrary{fset, importer.ForCompiler(fset, "source", nil)}
	for _, l := range layers {
		for _, ways := range strings.Fields(l.ways) {
			either := strings.Split(ways, "|")
			miss, err := waysMissing(std, "..", "lodger", []string{l.name}, either)
			if err != nil {
				t.Fatal(err)
			}
			if len(miss) == len(either) {
				t.Errorf("%s: way missing: %s", l.name, ways)
			}
		}
	}
}
