package names_test

import (
	"math/rand"
	"slices"
	"strings"
	"testing"

	"lodger/api"
	"lodger/names"
	"lodger/parse"
	"lodger/ty"
)

var strT = &api.Type{Kind: api.TyStr}

func parsed(t *testing.T, source string) []*api.Decl {
	t.Helper()
	l, err := parse.Parse(source)
	if err != nil {
		t.Fatalf("%s: %v", source, err)
	}
	return l
}

// written is the written type that a source says.
func written(t *testing.T, source string) *api.TypeEx {
	t.Helper()
	return parsed(t, "type T = "+source)[0].T
}

func named(s string) *api.Type { return &api.Type{Kind: api.TyName, Name: s} }

// library is an import of l, with the type V, and the value f.
func library() api.Import {
	return api.Import{Path: "l", There: true, Sum: api.Summary{Path: "l",
		Types:  []api.Export{{Name: "V", T: strT}},
		Values: []api.Export{{Name: "f", T: &api.Type{Kind: api.TyFun, Ret: named("l.V")}}},
	}}
}

func scope(t *testing.T, source string, imports ...api.Import) *names.Scope {
	t.Helper()
	s, _ := names.New("m", parsed(t, source), imports)
	return s
}

func told(t *testing.T, what string, got []api.Diag, want ...int) {
	t.Helper()
	var l []api.Diag
	for i := 0; i < len(want); i += 2 {
		l = append(l, api.Diag{Path: "m", At: want[i], Code: want[i+1]})
	}
	if !slices.Equal(got, l) {
		t.Errorf("%s: told %v, not %v", what, got, l)
	}
}

func TestExample(t *testing.T) {
	s, diags := names.New("m", parsed(t, `import "l" as u type T = {a: T, b: u.V} type T = int import "x" as u`), []api.Import{library()})
	told(t, "New", diags, 40, api.DgTwice, 53, api.DgTwice)
	if l := s.Types(); len(l) != 1 || l[0].Name != "T" || ty.Text(l[0].T) != "{a: m.T, b: l.V}" {
		t.Errorf("Types: %v", l)
	}
	for _, c := range []struct {
		name, want string
		is         bool
	}{{"m.T", "{a: m.T, b: l.V}", true}, {"l.V", "str", true}, {"T", "", false}, {"m.V", "", false}, {"l.T", "", false}, {"u.V", "", false}, {"", "", false}, {"m.", "", false}} {
		if b, is := s.Body(c.name); is != c.is || ty.Text(b) != c.want {
			t.Errorf("Body(%q): %s, %v", c.name, ty.Text(b), is)
		}
	}
	for _, c := range []struct {
		source, want string
		told         []int
	}{
		{"u.W", "any", []int{9, api.DgType}}, {"v.V", "any", []int{9, api.DgType}}, {"{a: int, a: int}", "any", []int{9, api.DgTwice}}, {"u.V", "l.V", nil}, {"T", "m.T", nil}, {"V", "any", []int{9, api.DgType}}, {"u.T", "any", []int{9, api.DgType}},
	} {
		got, diags := s.Resolve(written(t, c.source))
		told(t, c.source, diags, c.told...)
		if ty.Text(got) != c.want {
			t.Errorf("Resolve(%s): %s", c.source, ty.Text(got))
		}
	}
	value(t, s, "u", "f", "fn() -> l.V", true, true)
	value(t, s, "u", "g", "", true, false)
	value(t, s, "v", "f", "", false, false)
	value(t, s, "", "f", "", false, false)
	value(t, s, "u", "V", "", true, false)
	if s.Path() != "m" {
		t.Error(s.Path())
	}
}

func value(t *testing.T, s *names.Scope, alias, name, want string, isAlias, known bool) {
	t.Helper()
	if x, a, k := s.Value(alias, name); ty.Text(x) != want || a != isAlias || k != known || (x == nil) == known {
		t.Errorf("Value(%s, %s): %s, %v, %v", alias, name, ty.Text(x), a, k)
	}
}

func TestMeanings(t *testing.T) {
	s := scope(t, `import "l" as u type N = int`, library())
	deep := "N"
	for range 30 {
		deep = "{a: " + deep + "}"
	}
	for _, c := range []struct {
		source, want string
		told         []int
	}{
		{"int", "int", nil}, {"bool", "bool", nil}, {"str", "str", nil}, {"nil", "nil", nil}, {"any", "any", nil},
		{"{b: N, a: u.V}", "{a: l.V, b: m.N}", nil}, {"{}", "{}", nil}, {"fn(int, N) -> any", "fn(int, m.N) -> any", nil}, {"str | int | str", "int | str", nil}, {"int | any", "any", nil}, {"int | int", "int", nil}, {"(int | nil) | str", "int | nil | str", nil},
		{"fn(X, {a: Y}) -> Z", "fn(any, {a: any}) -> any", []int{12, api.DgType, 19, api.DgType, 26, api.DgType}},
		{"{a: X, a: int}", "any", []int{13, api.DgType, 9, api.DgTwice}}, {"{a: {b: X | int, b: int}}", "{a: any}", []int{17, api.DgType, 13, api.DgTwice}}, {"int | X", "any", []int{15, api.DgType}},
		{"{x: " + deep + ", y: " + deep + "}", "any", []int{9, api.DgSize}}, {"fn(" + deep + ") -> " + deep, "any", []int{9, api.DgSize}}, {deep + " | {b: " + deep + "}", "any", []int{9, api.DgSize}},
		{"{x: " + deep + ", x: " + deep + "}", "any", []int{9, api.DgTwice}},
	} {
		got, diags := s.Resolve(written(t, c.source))
		told(t, c.source, diags, c.told...)
		if ty.Text(got) != c.want {
			t.Errorf("Resolve(%s): %s", c.source, ty.Text(got))
		}
	}
}

func TestTypesOfOurOwn(t *testing.T) {
	s := scope(t, "")
	in := &api.TypeEx{Kind: api.TxInt, At: 5}
	for i, c := range []struct {
		t    *api.TypeEx
		want string
		told []int
	}{
		{nil, "any", nil}, {&api.TypeEx{}, "any", nil}, {&api.TypeEx{Kind: -3}, "any", nil}, {&api.TypeEx{Kind: api.LastTx + 1, At: 3}, "any", nil},
		{&api.TypeEx{Kind: api.TxFun, At: 2}, "fn() -> any", nil}, {&api.TypeEx{Kind: api.TxFun, Args: []*api.TypeEx{nil, in}}, "fn(any, int) -> any", nil}, {&api.TypeEx{Kind: api.TxUnion, At: 4}, "any", []int{4, api.DgSize}},
		{&api.TypeEx{Kind: api.TxUnion, Args: []*api.TypeEx{in}}, "int", nil}, {&api.TypeEx{Kind: api.TxRec, At: 6, Names: []string{"a"}}, "any", []int{6, api.DgTwice}}, {&api.TypeEx{Kind: api.TxRec, At: 6, Args: []*api.TypeEx{in}}, "any", []int{6, api.DgTwice}},
		{&api.TypeEx{Kind: api.TxRec, At: 6, Names: []string{"1"}, Args: []*api.TypeEx{in}}, "any", []int{6, api.DgTwice}}, {&api.TypeEx{Kind: api.TxName, At: 7}, "any", []int{7, api.DgType}},
	} {
		got, diags := s.Resolve(c.t)
		told(t, string(rune('a'+i)), diags, c.told...)
		if ty.Text(got) != c.want {
			t.Errorf("%d: %s", i, ty.Text(got))
		}
	}
}

// TestNothingDeclared: in a scope of nothing each name is told, and told anew by each call alone.
func TestNothingDeclared(t *testing.T) {
	s, diags := names.New("a", nil, nil)
	if len(diags) > 0 {
		t.Errorf("New: %v", diags)
	}
	for range 2 {
		x, diags := s.Resolve(&api.TypeEx{Kind: api.TxName, Name: "T", At: 3})
		if ty.Text(x) != "any" || !slices.Equal(diags, []api.Diag{{Path: "a", At: 3, Code: api.DgType}}) {
			t.Errorf("Resolve: %s, %v", ty.Text(x), diags)
		}
	}
}

func TestLostAndBroken(t *testing.T) {
	broken := api.Import{Path: "b", There: true, Sum: api.Summary{Path: "b", Broken: true}}
	for _, c := range []struct {
		source  string
		imports []api.Import
		told    []int
		dark    bool
	}{
		{`import "l" as u`, []api.Import{library()}, nil, false},
		{`import "x/.././l" as u`, []api.Import{library()}, nil, false},
		{`import "x" as u`, []api.Import{library()}, []int{0, api.DgImport}, true},
		{`import "" as u`, []api.Import{library(), {There: true}}, []int{0, api.DgImport}, true},
		{`import "L" as u`, []api.Import{{Path: "L", There: true}}, []int{0, api.DgImport}, true},
		{`import "l" as u`, []api.Import{{Path: "l"}, library()}, []int{0, api.DgImport}, true},
		{`import "l" as u`, []api.Import{{Path: "l", Sum: library().Sum}}, []int{0, api.DgImport}, true},
		{`import "l" as u`, []api.Import{library(), {Path: "l"}}, nil, false},
		{`import "b" as u`, []api.Import{broken}, nil, true},
		{`import "x" as u import "l" as u`, []api.Import{library()}, []int{0, api.DgImport, 16, api.DgTwice}, true},
		{`import "l" as u import "l" as u`, []api.Import{library()}, []int{16, api.DgTwice}, false},
	} {
		s, diags := names.New("m", parsed(t, c.source), c.imports)
		told(t, c.source, diags, c.told...)
		if c.dark {
			value(t, s, "u", "f", "any", true, true)
			value(t, s, "u", "nothing", "any", true, true)
			is(t, s, "u", "V", "any", true)
			is(t, s, "u", "nothing", "any", true)
		} else {
			value(t, s, "u", "f", "fn() -> l.V", true, true)
			is(t, s, "u", "V", "l.V", true)
			is(t, s, "u", "nothing", "", false)
		}
		if b, has := s.Body("l.V"); has == c.dark || has && ty.Text(b) != "str" {
			t.Errorf("%s: Body", c.source)
		}
	}
}

func is(t *testing.T, s *names.Scope, alias, name, want string, known bool) {
	t.Helper()
	if x, k := s.Named(alias, name); ty.Text(x) != want || k != known || (x == nil) == known {
		t.Errorf("Named(%s, %s): %s, %v", alias, name, ty.Text(x), k)
	}
}

func TestNamed(t *testing.T) {
	s := scope(t, `import "l" as u type N = X type M = N type u = int`, library())
	is(t, s, "", "N", "m.N", true)
	is(t, s, "", "M", "m.M", true)
	is(t, s, "", "u", "m.u", true)
	is(t, s, "", "X", "", false)
	is(t, s, "", "", "", false)
	is(t, s, "N", "N", "", false)
	is(t, s, "u", "V", "l.V", true)
	is(t, s, "u", "f", "", false)
	is(t, s, "m", "N", "", false)
}

// TestOrderOfTelling: imports and twice declared types first, then what is told of bodies, each in the order of the declarations.
func TestOrderOfTelling(t *testing.T) {
	source := `type A = X type B = {a: Y, a: int} import "q" as u type A = Z let x: W = 1 import "r" as u type C = v.V`
	s, diags := names.New("m", parsed(t, source), nil)
	told(t, source, diags,
		strings.Index(source, "import"), api.DgImport, strings.Index(source, "type A = Z"), api.DgTwice, strings.Index(source, `import "r"`), api.DgTwice,
		9, api.DgType, strings.Index(source, "Y"), api.DgType, strings.Index(source, "{a"), api.DgTwice, strings.Index(source, "v.V"), api.DgType)
	var l []string
	for _, x := range s.Types() {
		l = append(l, x.Name+" "+ty.Text(x.T))
	}
	if got := strings.Join(l, ", "); got != "A any, B any, C any" {
		t.Error(got)
	}
	s, diags = names.New("m", []*api.Decl{nil, {Kind: api.DeType, Name: "T", At: 3}, nil, {Kind: 77, Name: "X"}, {Kind: api.DeType, Name: "T", At: 4}, {Kind: api.DeLet, Name: "Y"}}, nil)
	told(t, "our own", diags, 4, api.DgTwice)
	if b, has := s.Body("m.T"); !has || ty.Text(b) != "any" {
		t.Error("a body that is none")
	}
	is(t, s, "", "X", "", false)
	is(t, s, "", "Y", "", false)
}

// TestBodiesOfImports: the first alias that has the type, in the order of the declarations.
func TestBodiesOfImports(t *testing.T) {
	one, two, broken := library(), library(), library()
	two.Path, two.Sum.Types = "k", []api.Export{{Name: "V", T: &api.Type{Kind: api.TyInt}}, {Name: "W", T: strT}}
	broken.Path, broken.Sum.Broken = "j", true
	l := []api.Import{one, two, broken}
	for _, c := range []struct{ source, v, w string }{
		{`import "l" as u import "k" as v`, "str", "str"}, {`import "k" as v import "l" as u`, "int", "str"}, {`import "k" as a import "l" as b`, "int", "str"}, {`import "l" as z import "k" as a`, "str", "str"},
		{`import "j" as a import "l" as b`, "str", ""}, {`import "j" as a`, "", ""},
	} {
		s := scope(t, c.source, l...)
		v, _ := s.Body("l.V")
		w, _ := s.Body("l.W")
		if ty.Text(v) != c.v || ty.Text(w) != c.w {
			t.Errorf("%s: %s, %s", c.source, ty.Text(v), ty.Text(w))
		}
	}
	own, _ := names.New("l", parsed(t, `import "l" as u type V = bool`), l)
	if b, _ := own.Body("l.V"); ty.Text(b) != "bool" {
		t.Errorf("an own type comes first, not %s", ty.Text(b))
	}
}

func TestNotKept(t *testing.T) {
	in := library()
	l, imports := parsed(t, `import "l" as u type N = {a: u.V}`), []api.Import{in}
	s, _ := names.New("m", l, imports)
	in.Sum.Types[0].Name, in.Sum.Values[0].Name, imports[0].There, l[1].Name = "W", "g", false, "M"
	imports[0].Sum.Types[0].T = nil
	is(t, s, "u", "V", "l.V", true)
	is(t, s, "", "N", "m.N", true)
	value(t, s, "u", "f", "fn() -> l.V", true, true)
	if b, has := s.Body("l.V"); !has || ty.Text(b) != "str" {
		t.Error("Body")
	}
	s.Types()[0].Name = "changed"
	if s.Types()[0].Name != "N" {
		t.Error("Types are not new")
	}
}

func TestNoScope(t *testing.T) {
	var none *names.Scope
	if x, diags := none.Resolve(written(t, "X")); ty.Text(x) != "any" || len(diags) > 0 {
		t.Error("Resolve")
	}
	is(t, none, "", "X", "", false)
	value(t, none, "u", "f", "", false, false)
	if b, has := none.Body("m.T"); b != nil || has || none.Path() != "" || len(none.Types()) > 0 {
		t.Error("a scope that is none")
	}
}

// TestWhereThePathIsNone: types of such a module may not be, so nothing is made of them.
func TestWhereThePathIsNone(t *testing.T) {
	s, _ := names.New("a b", parsed(t, "type N = int"), nil)
	for _, c := range []struct {
		source string
		code   int
	}{{"{a: N}", api.DgTwice}, {"fn() -> N", api.DgSize}, {"N | int", api.DgSize}} {
		x, diags := s.Resolve(written(t, c.source))
		if ty.Text(x) != "any" || len(diags) != 1 || diags[0] != (api.Diag{Path: "a b", At: 9, Code: c.code}) {
			t.Errorf("%s: %v", c.source, diags)
		}
	}
}

func random(rnd *rand.Rand, deep int) *api.TypeEx {
	kind := 1 + rnd.Intn(api.LastTx+1)
	if deep == 0 {
		kind = 1 + rnd.Intn(api.TxName)
	}
	t := &api.TypeEx{Kind: kind, At: rnd.Intn(99)}
	switch kind {
	case api.TxName:
		t.Alias, t.Name = []string{"", "u", "v"}[rnd.Intn(3)], []string{"N", "V", "X"}[rnd.Intn(3)]
	case api.TxRec, api.TxFun, api.TxUnion:
		for i := range rnd.Intn(5) {
			t.Args = append(t.Args, random(rnd, deep-1))
			if kind == api.TxRec {
				t.Names = append(t.Names, []string{"a", "b", "c", "d", "a"}[i])
			}
		}
		if kind == api.TxFun {
			t.Ret = random(rnd, deep-1)
		}
	}
	return t
}

func size(t *api.TypeEx) int {
	if t == nil {
		return 0
	}
	n := 1 + size(t.Ret)
	for _, x := range t.Args {
		n += size(x)
	}
	return n
}

// TestWhatIsMeantMayBe, and is no larger than what stands there, if nothing is told of it.
func TestWhatIsMeantMayBe(t *testing.T) {
	s := scope(t, `import "l" as u type N = int`, library())
	rnd := rand.New(rand.NewSource(1))
	quiet := 0
	for range 5000 {
		x := random(rnd, 4)
		got, diags := s.Resolve(x)
		if ty.Check(got) != api.OK {
			t.Fatalf("%v may not be", *got)
		}
		if len(diags) == 0 {
			quiet++
			if ty.Size(got) > size(x) {
				t.Fatalf("%s of %d", ty.Text(got), size(x))
			}
		}
	}
	if quiet < 500 {
		t.Errorf("of %d alone nothing is told", quiet)
	}
}
