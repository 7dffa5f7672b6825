package print_test

import (
	"math/rand"
	"strings"
	"testing"

	"lodger/api"
	"lodger/parse"
	"lodger/print"
)

func parsed(t *testing.T, source string) []*api.Decl {
	t.Helper()
	l, err := parse.Parse(source)
	if err != nil {
		t.Fatalf("%s: %v", source, err)
	}
	return l
}

func TestPrint(t *testing.T) {
	for _, c := range []struct{ source, want string }{
		{"", ""},
		{"let x=(1+2)*3 let y=1+(2*3)let z=1-(2-3)", "let x = (1 + 2) * 3\nlet y = 1 + 2 * 3\nlet z = 1 - (2 - 3)\n"},
		{"fun f(a:int,b):{}=fn()=>if a then b else(f(a).x)", "fun f(a: int, b): {} = fn() => if a then b else f(a).x\n"},
		{"type T=(fn()->int)|(int|str)", "type T = (fn() -> int) | (int | str)\n"},
		{`let s = -(-("a\nb": u.T))`, "let s = --(\"a\\nb\": u.T)\n"},
		{`import "a\"\\\n" as u`, "import \"a\\\"\\\\\\n\" as u\n"},
		{"fun f() = 1 fun g(a): int = 2", "fun f() = 1\nfun g(a): int = 2\n"},
		{"let x: {a:int,b:fn(any,N)->u.V} = {a=1,b=(c)}", "let x: {a: int, b: fn(any, N) -> u.V} = {a = 1, b = c}\n"},
	} {
		if got, err := print.Print(parsed(t, c.source)); got != c.want || err != api.OK {
			t.Errorf("%s: %q, %v", c.source, got, err)
		}
	}
}

func TestTypes(t *testing.T) {
	for _, c := range []struct{ source, want string }{
		{"int|bool|str|nil|any", "int | bool | str | nil | any"},
		{"int|fn()->int|str", "int | fn() -> int | str"},
		{"int|(fn()->int)|str", "int | (fn() -> int) | str"},
		{"int|(fn()->int)", "int | fn() -> int"},
		{"int|(str|nil)", "int | (str | nil)"},
		{"(int|str)|nil", "(int | str) | nil"},
		{"fn(int|str)->(int|str)", "fn(int | str) -> int | str"},
		{"fn()->fn()->int", "fn() -> fn() -> int"},
		{"(fn()->fn()->int)|nil", "(fn() -> fn() -> int) | nil"},
		{"{}", "{}"}, {"(((u.N)))", "u.N"}, {"{b:int|nil,a:N}", "{b: int | nil, a: N}"},
	} {
		if got, err := print.Print(parsed(t, "type T = "+c.source)); got != "type T = "+c.want+"\n" || err != api.OK {
			t.Errorf("%s: %q, %v", c.source, got, err)
		}
	}
}

func TestExpressions(t *testing.T) {
	for _, c := range []struct{ source, want string }{
		{"007", "7"}, {"true", "true"}, {"false", "false"}, {"nil", "nil"}, {`"\\"`, `"\\"`}, {"{}", "{}"}, {"((a))", "a"},
		{"(a or b) and c", "(a or b) and c"}, {"a or (b and c)", "a or b and c"}, {"a or (b or c)", "a or (b or c)"}, {"(a or b) or c", "a or b or c"},
		{"(a and b) == c", "(a and b) == c"}, {"a and (b == c)", "a and b == c"}, {"a == (b < c)", "a == (b < c)"}, {"(a == b) < c", "a == b < c"},
		{"(a < b) + c", "(a < b) + c"}, {"a < (b .. c)", "a < b .. c"}, {"a - (b + c)", "a - (b + c)"}, {"(a .. b) - c", "a .. b - c"}, {"a * (b * c)", "a * (b * c)"}, {"(a + b) * (c + d)", "(a + b) * (c + d)"},
		{"not (a == b)", "not (a == b)"}, {"(not a) == b", "not a == b"}, {"-(a * b)", "-(a * b)"}, {"(-a) * b", "-a * b"}, {"-(a.b)", "-a.b"}, {"(-a).b", "(-a).b"}, {"(not a)(b)", "(not a)(b)"}, {"not -a", "not -a"}, {"-not a", "-not a"},
		{"(a.b)(c).d", "a.b(c).d"}, {"(a + b).c", "(a + b).c"}, {"(fn() => 1)()", "(fn() => 1)()"}, {"{a = 1}.a", "{a = 1}.a"}, {"1.a", "1.a"}, {`"s"(1)`, `"s"(1)`},
		{"(if a then b else c) + 1", "(if a then b else c) + 1"}, {"1 + (let a = 1 in a)", "1 + (let a = 1 in a)"}, {"if a then b else (c + 1)", "if a then b else c + 1"},
		{"if (if a then b else c) then (fn() => 1) else (let a = 1 in a)", "if if a then b else c then fn() => 1 else let a = 1 in a"},
		{"let a: int = (let b = 1 in b) in a", "let a: int = let b = 1 in b in a"}, {"fn(a, b: int) => (fn() => a)", "fn(a, b: int) => fn() => a"},
		{"(a: int)", "(a: int)"}, {"((a: int): str)", "((a: int): str)"}, {"(if a then b else c: int | str)", "(if a then b else c: int | str)"},
		{"roll u.N((1))", "roll u.N(1)"}, {"unroll((a + b))", "unroll(a + b)"}, {"f(if a then b else c, (d))", "f(if a then b else c, d)"}, {"unroll(a).b", "unroll(a).b"}, {"-roll N(a)", "-roll N(a)"}, {"(a: int).b", "(a: int).b"},
	} {
		if got, err := print.Print(parsed(t, "let x = "+c.source)); got != "let x = "+c.want+"\n" || err != api.OK {
			t.Errorf("%s: %q, %v", c.source, got, err)
		}
	}
}

// TestSignsThatBind: parentheses stand where they must, and nowhere else.
func TestSignsThatBind(t *testing.T) {
	strengths := map[string]int{"or": 1, "and": 2, "==": 3, "<": 3, "+": 4, "-": 4, "..": 4, "*": 5}
	printed := func(source, want string) {
		t.Helper()
		if got, err := print.Print(parsed(t, "let x = "+source)); got != "let x = "+want+"\n" || err != api.OK {
			t.Errorf("%s: %q, %v", source, got, err)
		}
	}
	for one, m := range strengths {
		for two, n := range strengths {
			left, right := "(a "+one+" b) "+two+" c", "a "+one+" (b "+two+" c)"
			plain := "a " + one + " b " + two + " c"
			if m >= n {
				printed(left, plain)
				printed(right, right)
			} else {
				printed(left, left)
				printed(right, plain)
			}
		}
		for _, weak := range []string{"(if a then b else c)", "(let a = b in c)", "(fn() => b)"} {
			printed(weak+" "+one+" a", weak+" "+one+" a")
			printed("a "+one+" "+weak, "a "+one+" "+weak)
		}
		printed("(not a) "+one+" -b", "not a "+one+" -b")
		printed("not (a "+one+" b)", "not (a "+one+" b)")
		printed("(a "+one+" b)(c).d", "(a "+one+" b)(c).d")
	}
	for _, weak := range []string{"(if a then b else c)", "(let a = b in c)", "(fn() => b)"} {
		printed("-"+weak, "-"+weak)
		printed(weak+".a", weak+".a")
	}
}

func let(e *api.Expr) []*api.Decl {
	return []*api.Decl{{Kind: api.DeLet, Name: "x", E: e}}
}

func typ(t *api.TypeEx) []*api.Decl {
	return []*api.Decl{{Kind: api.DeType, Name: "T", T: t}}
}

func TestNoSource(t *testing.T) {
	one, in := &api.Expr{Kind: api.ExInt, N: 1}, &api.TypeEx{Kind: api.TxInt}
	two := []string{"a", "b"}
	for i, l := range [][]*api.Decl{
		{nil}, {{}}, {{Kind: api.LastDe + 1, Name: "x"}}, {{Kind: -1}},
		{{Kind: api.DeLet, Name: "x"}}, let(&api.Expr{Kind: api.ExInt, N: -1}), let(&api.Expr{Kind: api.ExName, Text: "let"}),
		{{Kind: api.DeLet, E: one}}, {{Kind: api.DeLet, Name: "int", E: one}}, {{Kind: api.DeLet, Name: "a b", E: one}}, {{Kind: api.DeLet, Name: strings.Repeat("n", 25), E: one}},
		{{Kind: api.DeLet, Name: "x", E: one, Text: "more"}}, {{Kind: api.DeLet, Name: "x", E: one, Names: two}}, {{Kind: api.DeLet, Name: "x", E: one, Types: []*api.TypeEx{nil}}},
		{{Kind: api.DeType, Name: "T"}}, {{Kind: api.DeType, Name: "T", T: in, E: one}}, {{Kind: api.DeImport, Name: "u", Text: "\xff"}}, {{Kind: api.DeImport, Text: "a"}},
		{{Kind: api.DeFun, Name: "f"}}, {{Kind: api.DeFun, Name: "f", E: one, Names: two}}, {{Kind: api.DeFun, Name: "f", E: one, Names: two, Types: []*api.TypeEx{in}}}, {{Kind: api.DeFun, Name: "f", E: one, Types: []*api.TypeEx{in}}},
		let(&api.Expr{}), let(&api.Expr{Kind: api.LastEx + 1}), let(&api.Expr{Kind: api.ExName}), let(&api.Expr{Kind: api.ExName, Text: "a + b"}), let(&api.Expr{Kind: api.ExName, Text: "?"}),
		let(&api.Expr{Kind: api.ExBin, Text: "+", L: one}), let(&api.Expr{Kind: api.ExBin, Text: "+", R: one}), let(&api.Expr{Kind: api.ExBin, Text: "/", L: one, R: one}), let(&api.Expr{Kind: api.ExBin, L: one, R: one}), let(&api.Expr{Kind: api.ExBin, Text: "?", L: one, R: one}),
		let(&api.Expr{Kind: api.ExUn, Text: "-"}), let(&api.Expr{Kind: api.ExUn, Text: "+", L: one}), let(&api.Expr{Kind: api.ExUn, L: one}), let(&api.Expr{Kind: api.ExUn, Text: "-", L: one, R: one}),
		let(&api.Expr{Kind: api.ExField, Text: "a"}), let(&api.Expr{Kind: api.ExField, L: one}), let(&api.Expr{Kind: api.ExCall}), let(&api.Expr{Kind: api.ExCall, L: one, Args: []*api.Expr{nil}}),
		let(&api.Expr{Kind: api.ExIf, L: one, R: one}), let(&api.Expr{Kind: api.ExLet, Text: "a", L: one}), let(&api.Expr{Kind: api.ExLet, Text: "a", R: one}), let(&api.Expr{Kind: api.ExFun}),
		let(&api.Expr{Kind: api.ExFun, L: one, Names: two}), let(&api.Expr{Kind: api.ExFun, L: one, Names: two, Types: []*api.TypeEx{nil}}), let(&api.Expr{Kind: api.ExRec, Names: two, Args: []*api.Expr{one}}), let(&api.Expr{Kind: api.ExRec, Args: []*api.Expr{one}}),
		let(&api.Expr{Kind: api.ExAs, L: one}), let(&api.Expr{Kind: api.ExAs, T: in}), let(&api.Expr{Kind: api.ExRoll, L: one}), let(&api.Expr{Kind: api.ExRoll, L: one, T: in}), let(&api.Expr{Kind: api.ExUnroll}), let(&api.Expr{Kind: api.ExStr, Text: "\xff"}), let(&api.Expr{Kind: api.ExInt, Text: "1", N: 1}),
		typ(&api.TypeEx{}), typ(&api.TypeEx{Kind: api.LastTx + 1}), typ(&api.TypeEx{Kind: api.TxName}), typ(&api.TypeEx{Kind: api.TxName, Name: "int"}), typ(&api.TypeEx{Kind: api.TxName, Alias: "a b", Name: "N"}), typ(&api.TypeEx{Kind: api.TxInt, Name: "N"}),
		typ(&api.TypeEx{Kind: api.TxUnion}), typ(&api.TypeEx{Kind: api.TxUnion, Args: []*api.TypeEx{in}}), typ(&api.TypeEx{Kind: api.TxUnion, Args: []*api.TypeEx{in, nil}}), typ(&api.TypeEx{Kind: api.TxFun}), typ(&api.TypeEx{Kind: api.TxFun, Ret: in, Args: []*api.TypeEx{nil}}),
		typ(&api.TypeEx{Kind: api.TxRec, Names: two}), typ(&api.TypeEx{Kind: api.TxRec, Names: two, Args: []*api.TypeEx{in}}), typ(&api.TypeEx{Kind: api.TxRec, Args: []*api.TypeEx{in}}), typ(&api.TypeEx{Kind: api.TxRec, Names: []string{"a: int, b"}, Args: []*api.TypeEx{in}}), typ(&api.TypeEx{Kind: api.TxInt, Ret: in}),
	} {
		if got, err := print.Print(l); got != "" || err != api.ErrArg {
			t.Errorf("%d: %q, %v", i, got, err)
		}
	}
	deep := one
	for range 60 {
		deep = &api.Expr{Kind: api.ExUn, Text: "-", L: deep}
	}
	if _, err := print.Print(let(deep)); err != api.ErrArg {
		t.Error("too deep")
	}
}

// TestTreesOfOurOwn: trees that no source was parsed to.
func TestTreesOfOurOwn(t *testing.T) {
	x := func(s string) *api.Expr { return &api.Expr{Kind: api.ExName, Text: s, At: 77} }
	bin := func(sign string, l, r *api.Expr) *api.Expr {
		return &api.Expr{Kind: api.ExBin, Text: sign, L: l, R: r}
	}
	for _, c := range []struct {
		e    *api.Expr
		want string
	}{
		{bin("-", x("a"), bin("-", x("b"), x("c"))), "a - (b - c)"},
		{bin("-", bin("-", x("a"), x("b")), x("c")), "a - b - c"},
		{bin("*", bin("+", x("a"), x("b")), x("c")), "(a + b) * c"},
		{&api.Expr{Kind: api.ExUn, Text: "not", L: bin("or", x("a"), x("b"))}, "not (a or b)"},
		{&api.Expr{Kind: api.ExField, Text: "f", L: &api.Expr{Kind: api.ExUn, Text: "-", L: x("a")}}, "(-a).f"},
		{&api.Expr{Kind: api.ExCall, L: x("f"), Args: []*api.Expr{}}, "f()"},
	} {
		if got, err := print.Print(let(c.e)); got != "let x = "+c.want+"\n" || err != api.OK {
			t.Errorf("%s: %q, %v", c.want, got, err)
		}
	}
}

func TestSame(t *testing.T) {
	if !print.Same(nil, nil) || !print.Same(nil, []*api.Decl{}) || !print.Same([]*api.Decl{nil}, []*api.Decl{nil}) {
		t.Error("nothing is the same as nothing")
	}
	if print.Same([]*api.Decl{nil}, nil) || print.Same([]*api.Decl{nil}, []*api.Decl{{}}) || print.Same([]*api.Decl{{}}, []*api.Decl{nil}) {
		t.Error("nil is the same as nil alone")
	}
	if !print.Same(parsed(t, "let x = (1 + a)"), parsed(t, "\n\nlet x=1+a")) {
		t.Error("places make a difference")
	}
	in, str := &api.TypeEx{Kind: api.TxInt}, &api.TypeEx{Kind: api.TxStr}
	one, two := &api.Expr{Kind: api.ExInt, N: 1}, &api.Expr{Kind: api.ExInt, N: 2}
	whole := func() *api.Decl {
		return &api.Decl{Kind: 9, At: 1, Name: "n", Text: "t", Names: []string{"a"}, Types: []*api.TypeEx{in},
			T: &api.TypeEx{Kind: 7, At: 2, Alias: "a", Name: "n", Names: []string{"x"}, Args: []*api.TypeEx{in}, Ret: in},
			E: &api.Expr{Kind: 3, At: 4, N: 5, Text: "t", L: one, R: one, C: one, T: in, Names: []string{"y"}, Types: []*api.TypeEx{in}, Args: []*api.Expr{one}}}
	}
	for i, change := range []func(d *api.Decl){
		func(d *api.Decl) { d.Kind++ }, func(d *api.Decl) { d.Name = "" }, func(d *api.Decl) { d.Text = "" }, func(d *api.Decl) { d.Names = nil }, func(d *api.Decl) { d.Names[0] = "b" },
		func(d *api.Decl) { d.Types = nil }, func(d *api.Decl) { d.Types[0] = nil }, func(d *api.Decl) { d.Types[0] = str }, func(d *api.Decl) { d.T = nil }, func(d *api.Decl) { d.E = nil },
		func(d *api.Decl) { d.T.Kind++ }, func(d *api.Decl) { d.T.Alias = "" }, func(d *api.Decl) { d.T.Name = "" }, func(d *api.Decl) { d.T.Names = []string{"x", "y"} }, func(d *api.Decl) { d.T.Args[0] = str }, func(d *api.Decl) { d.T.Ret = str }, func(d *api.Decl) { d.T.Ret = nil },
		func(d *api.Decl) { d.E.Kind++ }, func(d *api.Decl) { d.E.N++ }, func(d *api.Decl) { d.E.Text = "" }, func(d *api.Decl) { d.E.L = two }, func(d *api.Decl) { d.E.R = two }, func(d *api.Decl) { d.E.C = nil }, func(d *api.Decl) { d.E.C = two },
		func(d *api.Decl) { d.E.T = str }, func(d *api.Decl) { d.E.Names[0] = "" }, func(d *api.Decl) { d.E.Types[0] = str }, func(d *api.Decl) { d.E.Args[0] = two }, func(d *api.Decl) { d.E.Args = nil },
	} {
		d := whole()
		change(d)
		if print.Same([]*api.Decl{whole()}, []*api.Decl{d}) || print.Same([]*api.Decl{d}, []*api.Decl{whole()}) {
			t.Errorf("change %d makes no difference", i)
		}
	}
	d := whole()
	d.At, d.T.At, d.E.At = 9, 9, 9
	if !print.Same([]*api.Decl{whole()}, []*api.Decl{d}) || print.Same([]*api.Decl{d}, []*api.Decl{d, d}) {
		t.Error("places, or lengths")
	}
}

// tree makes declarations of what rnd chooses, also such ones as no source comes to.
type tree struct{ rnd *rand.Rand }

// name is a name, but now and then none.
func (m tree) name() string {
	if m.rnd.Intn(40) == 0 {
		return []string{"let", ""}[m.rnd.Intn(2)]
	}
	return []string{"a", "b", "c_9"}[m.rnd.Intn(3)]
}

func (m tree) typ(deep int) *api.TypeEx {
	kind := 1 + m.rnd.Intn(api.LastTx)
	if deep == 0 {
		kind = 1 + m.rnd.Intn(api.TxName)
	}
	t := &api.TypeEx{Kind: kind, At: m.rnd.Intn(9)}
	switch kind {
	case api.TxName:
		t.Name = m.name()
	case api.TxRec, api.TxFun, api.TxUnion:
		for range m.rnd.Intn(4) {
			t.Args = append(t.Args, m.typ(deep-1))
			if kind == api.TxRec {
				t.Names = append(t.Names, m.name())
			}
		}
		if kind == api.TxFun {
			t.Ret = m.typ(deep - 1)
		}
	}
	return t
}

func (m tree) maybe(deep int) *api.TypeEx {
	if m.rnd.Intn(2) == 0 {
		return nil
	}
	return m.typ(deep)
}

func (m tree) expr(deep int) *api.Expr {
	kind := 1 + m.rnd.Intn(api.LastEx)
	if deep == 0 {
		kind = 1 + m.rnd.Intn(api.ExName)
	}
	e := &api.Expr{Kind: kind, At: m.rnd.Intn(9)}
	in := func() *api.Expr { return m.expr(deep - 1) }
	switch kind {
	case api.ExInt:
		e.N = int64(m.rnd.Intn(50)) - 1
	case api.ExStr:
		e.Text = []string{"", "a\"\\\n", "ä#"}[m.rnd.Intn(3)]
	case api.ExName:
		e.Text = m.name()
	case api.ExField:
		e.L, e.Text = in(), m.name()
	case api.ExRec, api.ExCall:
		for range m.rnd.Intn(3) {
			e.Args = append(e.Args, in())
			if kind == api.ExRec {
				e.Names = append(e.Names, m.name())
			}
		}
		if kind == api.ExCall {
			e.L = in()
		}
	case api.ExFun:
		for range m.rnd.Intn(3) {
			e.Names, e.Types = append(e.Names, m.name()), append(e.Types, m.maybe(deep-1))
		}
		e.L = in()
	case api.ExIf:
		e.L, e.R, e.C = in(), in(), in()
	case api.ExLet:
		e.Text, e.T, e.L, e.R = m.name(), m.maybe(deep-1), in(), in()
	case api.ExBin:
		e.Text, e.L, e.R = strings.Fields("or and == < + - .. *")[m.rnd.Intn(8)], in(), in()
	case api.ExUn:
		e.Text, e.L = []string{"not", "-"}[m.rnd.Intn(2)], in()
	case api.ExAs:
		e.L, e.T = in(), m.typ(deep-1)
	case api.ExRoll:
		e.L, e.T = in(), &api.TypeEx{Kind: api.TxName, Name: "N"}
	case api.ExUnroll:
		e.L = in()
	}
	return e
}

// TestThereAndBack: what is printed, parsed, is what was there; and is printed alike.
func TestThereAndBack(t *testing.T) {
	m := tree{rand.New(rand.NewSource(1))}
	printed := 0
	for range 6000 {
		l := []*api.Decl{{Kind: api.DeLet, Name: "x", T: m.maybe(2), E: m.expr(m.rnd.Intn(4))}, {Kind: api.DeType, Name: "T", T: m.typ(m.rnd.Intn(4))}}
		text, err := print.Print(l)
		if err != api.OK {
			if text != "" || err != api.ErrArg {
				t.Fatalf("%q, %v", text, err)
			}
			continue
		}
		printed++
		again := parsed(t, text)
		if !print.Same(again, l) {
			t.Fatalf("%s is not what was printed", text)
		}
		if twice, err := print.Print(again); twice != text || err != api.OK {
			t.Fatalf("%s is printed as %s", text, twice)
		}
	}
	if printed < 2000 {
		t.Errorf("only %d were printed", printed)
	}
}
