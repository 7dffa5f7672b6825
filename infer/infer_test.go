package infer_test

import (
	"math/rand"
	"slices"
	"strings"
	"testing"

	"lodger/api"
	"lodger/infer"
	"lodger/names"
	"lodger/parse"
	"lodger/sub"
	"lodger/ty"
)

var (
	anyT  = &api.Type{Kind: api.TyAny}
	intT  = &api.Type{Kind: api.TyInt}
	strT  = &api.Type{Kind: api.TyStr}
	boolT = &api.Type{Kind: api.TyBool}
)

func named(s string) *api.Type { return &api.Type{Kind: api.TyName, Name: s} }

func parsed(t testing.TB, source string) []*api.Decl {
	t.Helper()
	l, err := parse.Parse(source)
	if err != nil {
		t.Fatalf("%s: %v", source, err)
	}
	return l
}

func expr(t testing.TB, source string) *api.Expr { return parsed(t, "let x = "+source)[0].E }

// scope is that of a module m, with the type N, and with an import u, of which the type V and some values are known, and a dark one, d.
func scope(t testing.TB) *names.Scope {
	t.Helper()
	s, _ := names.New("m", parsed(t, `type N = {n: int} type R = {r: R | nil} type Big = int import "l" as u import "no" as d`), []api.Import{{Path: "l", There: true, Sum: api.Summary{Path: "l",
		Types: []api.Export{{Name: "V", T: strT}},
		Values: []api.Export{{Name: "f", T: &api.Type{Kind: api.TyFun, Args: []*api.Type{named("l.V")}, Ret: intT}}, {Name: "k", T: named("k.K")},
			{Name: "v", T: named("l.V")}},
	}}})
	return s
}

func checker(t testing.TB) *infer.Checker {
	c := infer.New(scope(t), sub.Sub)
	c.Bind("i", intT)
	c.Bind("s", strT)
	c.Bind("b", boolT)
	c.Bind("a", anyT)
	c.Bind("f", &api.Type{Kind: api.TyFun, Args: []*api.Type{intT}, Ret: strT})
	return c
}

// told holds what was told against places in the source behind "let x = ", and codes.
func told(t testing.TB, what string, got []api.Diag, want ...int) {
	t.Helper()
	var l []api.Diag
	for i := 0; i < len(want); i += 2 {
		l = append(l, api.Diag{Path: "m", At: want[i] + 8, Code: want[i+1]})
	}
	if !slices.Equal(got, l) {
		t.Errorf("%s: told %v, not %v", what, got, l)
	}
}

func TestTypes(t *testing.T) {
	for _, c := range []struct {
		source, want string
		told         []int
	}{
		{"1", "int", nil}, {`"a"`, "str", nil}, {"true", "bool", nil}, {"false", "bool", nil}, {"nil", "nil", nil}, {"i", "int", nil}, {"a", "any", nil}, {"x", "any", []int{0, api.DgName}}, {"u", "any", []int{0, api.DgName}},
		{`{a = 1, b = "x"}.b .. "y"`, "str", nil}, {"{}", "{}", nil}, {"{b = 1, a = s}", "{a: str, b: int}", nil}, {"{a = 1, a = x}", "any", []int{12, api.DgName, 0, api.DgTwice}},
		{"{a = 1}.b", "any", []int{7, api.DgField}}, {"{a = 1}.a", "int", nil}, {"a.b.c", "any", nil}, {"x.b", "any", []int{0, api.DgName}}, {"1.b", "any", []int{1, api.DgField}}, {"f.b", "any", []int{1, api.DgField}},
		{"(if b then {a = 1} else {a = s, c = 2}).a", "int | str", nil}, {"(if b then {a = 1} else {c = 2}).a", "any", []int{32, api.DgField}}, {"(if b then {a = 1} else 2).a", "any", []int{26, api.DgField}}, {"(if b then {a = a} else {a = s, c = 2}).a", "any", nil}, {"(if b then {a = 1} else {a = 2, c = 2}).a", "int", nil},
		{"u.f", "fn(l.V) -> int", nil}, {"u.g", "any", []int{1, api.DgName}}, {"d.f", "any", nil}, {"d.f.g(x)", "any", []int{6, api.DgName}}, {"(u).f", "fn(l.V) -> int", nil}, {"u.V", "any", []int{1, api.DgName}},
		{"let u = {f = 1} in u.f", "int", nil}, {"(let u = 1 in u).f", "any", []int{16, api.DgField}}, {"fn(u) => u.f", "fn(any) -> any", nil},
		{"fn(x, y: int) => x + y", "fn(any, int) -> int", nil}, {"fn() => 1", "fn() -> int", nil}, {"fn(x: X) => x", "fn(any) -> any", []int{6, api.DgType}}, {"fn(x: int, x: str) => x", "fn(int, str) -> str", nil}, {"(fn(x: int) => x)(x)", "int", []int{18, api.DgName}}, {"fn(i: str) => i", "fn(str) -> str", nil}, {"{a = fn(i: str) => i, b = i}.b", "int", nil},
		{`if true then 1 else "a"`, "int | str", nil}, {"if 1 then 1 else 2", "int", []int{3, api.DgWrong}}, {"if a then x else y", "any", []int{10, api.DgName, 17, api.DgName}},
		{`(fn(x: int) => x)("a")`, "int", []int{18, api.DgWrong}}, {"f(1)", "str", nil}, {"f(a)", "str", nil}, {"f()", "str", []int{1, api.DgArity}}, {"f(x, y)", "str", []int{1, api.DgArity, 2, api.DgName, 5, api.DgName}}, {"f(s)", "str", []int{2, api.DgWrong}},
		{"(fn() => 1)(2)", "int", []int{11, api.DgArity}}, {"1(2)", "any", []int{1, api.DgCall}}, {"1(x)", "any", []int{1, api.DgCall, 2, api.DgName}}, {"a(x, 1)", "any", []int{2, api.DgName}}, {"x(y)", "any", []int{0, api.DgName, 2, api.DgName}}, {"{}()", "any", []int{2, api.DgCall}},
		{`(if true then fn(x: int) => x else fn(y) => "s")(1)`, "int | str", nil}, {`(if true then fn(x: int) => x else fn(y) => "s")(s)`, "int | str", []int{49, api.DgWrong}}, {`(if b then fn(x: int) => x else fn(y: bool) => "s")(s)`, "int | str", []int{52, api.DgWrong}},
		{"(if b then f else fn() => 1)(1)", "any", []int{28, api.DgCall}}, {"(if b then f else 1)(x)", "any", []int{20, api.DgCall, 21, api.DgName}}, {"(if b then f else fn(y) => 1)()", "any", []int{29, api.DgCall}}, {"(if b then fn() => 1 else fn() => s)()", "int | str", nil},
		{"(if b then fn(x: int, y: str) => 1 else fn(x: int, y: bool) => s)(s, i)", "int | str", []int{66, api.DgWrong, 69, api.DgWrong}},
		{"let y = 1 in y", "int", nil}, {"let y: str = 1 in y", "str", []int{13, api.DgWrong}}, {"let y: any = 1 in y .. s", "str", nil}, {"let y = y in y", "any", []int{8, api.DgName}}, {"let i = s in i .. i", "str", nil}, {"(let i = s in i) == i", "bool", []int{17, api.DgEqual}}, {"let y: X = z in y", "any", []int{7, api.DgType, 11, api.DgName}},
		{"b or b", "bool", nil}, {"b and 1", "bool", []int{6, api.DgWrong}}, {"1 or s", "bool", []int{0, api.DgWrong, 5, api.DgWrong}}, {"1 < 2", "bool", nil}, {"s < b", "bool", []int{0, api.DgWrong, 4, api.DgWrong}}, {"s .. s", "str", nil}, {"1 .. 2", "str", []int{0, api.DgWrong, 5, api.DgWrong}},
		{"1 + 2", "int", nil}, {"1 - s", "int", []int{4, api.DgWrong}}, {"s * 1", "int", []int{0, api.DgWrong}}, {"a + a", "int", nil}, {"x + y", "int", []int{0, api.DgName, 4, api.DgName}},
		{`1 == "a"`, "bool", []int{2, api.DgEqual}}, {"1 == 1", "bool", nil}, {"{} == {a = 1}", "bool", nil}, {"{a = 1} == {}", "bool", nil}, {"{a = 1} == {a = s}", "bool", []int{8, api.DgEqual}}, {"1 == a", "bool", nil}, {"x == 1", "bool", []int{0, api.DgName}},
		{"not b", "bool", nil}, {"not 1", "bool", []int{4, api.DgWrong}}, {"-1", "int", nil}, {"-s", "int", []int{1, api.DgWrong}}, {"- -a", "int", nil},
		{"(1: int)", "int", nil}, {"(1: any)", "any", nil}, {"(1: str)", "str", []int{1, api.DgWrong}}, {"(1: int | str)", "int | str", nil}, {"(x: X)", "any", []int{4, api.DgType, 1, api.DgName}},
		{"unroll(roll N({n = 1})).n", "int", nil}, {"roll N(1)", "m.N", []int{7, api.DgWrong}}, {"roll N({n = a})", "m.N", nil}, {"roll u.V(s)", "l.V", nil}, {"unroll(roll u.V(s))", "str", nil}, {"roll X(x)", "any", []int{5, api.DgType, 7, api.DgName}}, {"roll d.X(x)", "any", []int{9, api.DgName}}, {"roll u.X(1)", "any", []int{5, api.DgType}},
		{"unroll(1)", "any", []int{0, api.DgRoll}}, {"unroll(a)", "any", nil}, {"unroll(x)", "any", []int{7, api.DgName}}, {"unroll(u.k)", "any", []int{0, api.DgRoll}}, {"unroll(u.v)", "str", nil}, {"unroll(roll R({r = nil})).r", "m.R | nil", nil}, {"unroll({})", "any", []int{0, api.DgRoll}},
		{"roll N({n = 1}) == u.v", "bool", []int{16, api.DgEqual}}, {"u.f(roll u.V(s))", "int", nil}, {"u.f(s)", "int", []int{4, api.DgWrong}},
	} {
		ch := checker(t)
		if got := ch.Synth(expr(t, c.source)); ty.Text(got) != c.want {
			t.Errorf("%s: %s, not %s", c.source, ty.Text(got), c.want)
		}
		told(t, c.source, ch.Diags(), c.told...)
	}
}

func TestTooLarge(t *testing.T) {
	big := "1"
	for range 32 {
		big = "{a = " + big + "}"
	}
	fields := ""
	for i := range 30 {
		fields += "f" + string(rune('a'+i%26)) + string(rune('a'+i/26)) + " = 1, "
	}
	wide := "{" + strings.TrimSuffix(fields, ", ") + "}" // of 31 types
	for _, source := range []string{"{a = y, b = y}", "fn(a: Z) => {c = y, d = y}", "if b then y else {b = y}", "(if b then fn() => y else fn() => {b = y})()", "fn() => if b then y else {b = y}"} {
		ch := checker(t)
		got := ch.Synth(expr(t, "let y = "+wide+" in "+source))
		l := ch.Diags()
		n := 0
		for _, d := range l {
			if d.Code == api.DgSize {
				n++
			}
		}
		if n != 1 || ty.Check(got) != api.OK {
			t.Errorf("%s: %v, %s", source, l, ty.Text(got))
		}
	}
	ch := checker(t)
	if got := ch.Synth(expr(t, "{a = "+wide+", b = "+wide+"}")); ty.Text(got) != "any" {
		t.Error(ty.Text(got))
	}
	told(t, "a record", ch.Diags(), 0, api.DgSize)
	ch = checker(t)
	ch.Synth(expr(t, big))
	told(t, "what is not too large", ch.Diags())
	ch = checker(t)
	f := &api.Type{Kind: api.TyFun, Ret: intT}
	for range 57 {
		f = &api.Type{Kind: api.TyFun, Ret: f}
	}
	ch.Bind("big", f) // of 59
	if got := ch.Synth(expr(t, "fn() => big")); ty.Size(got) != 60 {
		t.Error("60 may be")
	}
	if got := ch.Synth(expr(t, "fn(y) => big")); ty.Text(got) != "any" {
		t.Error(ty.Text(got))
	}
	told(t, "a function", ch.Diags(), 0, api.DgSize)
}

func TestCosts(t *testing.T) {
	for _, c := range []struct {
		source string
		want   uint64
	}{
		{"1", 1}, {"x", 1}, {"i", 1}, {"u.f", 1}, {"u.g", 1}, {"d.f", 1}, {"a.f", 2}, {"{a = 1, b = 2}", 3}, {"{a = 1}.a", 3}, {"1 + 2", 3 + 2}, {"not b", 2 + 1}, {"-s", 2 + 1}, {"fn(x: int, y) => x", 2 + 1}, {"fn(x: {a: int, b: str | nil}) => x", 2 + 5}, {"fn(x: fn(int) -> str) => x", 2 + 3},
		{"f(1)", 3 + 1}, {"f(x, y)", 4}, {"1(2)", 3}, {"a(1, 2)", 4}, {"if b then 1 else 2", 4 + 1}, {"let y = 1 in y", 3}, {"let y: int = 1 in y", 3 + 1 + 1}, {"(1: int | str)", 2 + 3 + 2}, {"(1: str | int)", 2 + 3 + 2},
		{"1 == 1", 3 + 1}, {"1 == s", 3 + 2}, {"{} == {a = 1}", 4 + 1 + 1}, {"{a = 1} == {}", 4 + 1}, {"roll N({n = 1})", 3 + 1 + 2}, {"roll X(1)", 2 + 1}, {"unroll(a)", 2}, {"(x: X)", 2 + 1 + 1},
		{"(if b then f else fn(y: str) => 1)(s)", 1 + (1 + 1 + 1 + 1 + 2 + 1) + 1 + 1}, {"(if b then fn(y: str) => 1 else f)(1)", 1 + (1 + 1 + 1 + 2 + 1 + 1) + 1 + 2}, {"(if b then fn(y: str) => 1 else f)(a)", 1 + (1 + 1 + 1 + 2 + 1 + 1) + 1 + 2},
	} {
		ch := checker(t)
		if ch.Cost() != 0 {
			t.Error("a cost at first")
		}
		if ch.Synth(expr(t, c.source)); ch.Cost() != c.want {
			t.Errorf("%s: %d, not %d", c.source, ch.Cost(), c.want)
		}
	}
}

func TestTreesOfOurOwn(t *testing.T) {
	one, x := &api.Expr{Kind: api.ExInt, At: 1 + 8}, &api.Expr{Kind: api.ExName, Text: "nobody", At: 2 + 8}
	in := &api.TypeEx{Kind: api.TxInt}
	for i, c := range []struct {
		e    *api.Expr
		want string
		cost uint64
		told []int
	}{
		{nil, "any", 0, nil}, {&api.Expr{}, "any", 1, nil}, {&api.Expr{Kind: api.LastEx + 1, L: x}, "any", 1, nil}, {&api.Expr{Kind: -1}, "any", 1, nil},
		{&api.Expr{Kind: api.ExBin, Text: "/", L: x, R: x}, "any", 1, nil}, {&api.Expr{Kind: api.ExUn, Text: "+", L: x}, "any", 1, nil}, {&api.Expr{Kind: api.ExBin, L: x, R: x}, "any", 1, nil}, {&api.Expr{Kind: api.ExUn, L: x}, "any", 1, nil}, {&api.Expr{Kind: api.ExUn, Text: "or", L: x}, "any", 1, nil}, {&api.Expr{Kind: api.ExBin, Text: "not", L: x, R: x}, "any", 1, nil},
		{&api.Expr{Kind: api.ExBin, Text: "+"}, "int", 3, nil}, {&api.Expr{Kind: api.ExBin, Text: "=="}, "bool", 2, nil}, {&api.Expr{Kind: api.ExUn, Text: "not"}, "bool", 2, nil}, {&api.Expr{Kind: api.ExField, Text: "a"}, "any", 1, nil}, {&api.Expr{Kind: api.ExCall, Args: []*api.Expr{nil, x}}, "any", 2, []int{2, api.DgName}},
		{&api.Expr{Kind: api.ExIf}, "any", 2, nil}, {&api.Expr{Kind: api.ExLet, Text: "q"}, "any", 1, nil}, {&api.Expr{Kind: api.ExAs, L: one}, "any", 3, nil}, {&api.Expr{Kind: api.ExRoll, L: x}, "any", 2, []int{2, api.DgName}}, {&api.Expr{Kind: api.ExUnroll}, "any", 1, nil},
		{&api.Expr{Kind: api.ExRoll, L: one, T: in, At: 5 + 8}, "any", 3, []int{5, api.DgRoll}}, {&api.Expr{Kind: api.ExRec, Names: []string{"a", "b"}, Args: []*api.Expr{one}}, "{a: int, b: any}", 2, nil}, {&api.Expr{Kind: api.ExRec, Names: []string{"1"}, Args: []*api.Expr{one}, At: 3 + 8}, "any", 2, []int{3, api.DgTwice}},
		{&api.Expr{Kind: api.ExFun, Names: []string{"p", "q"}, Types: []*api.TypeEx{in}, L: &api.Expr{Kind: api.ExName, Text: "p"}}, "fn(int, any) -> int", 3, nil}, {&api.Expr{Kind: api.ExFun}, "fn() -> any", 1, nil},
		{&api.Expr{Kind: api.ExFun, Types: []*api.TypeEx{{Kind: api.TxRec, Names: []string{"a"}, Args: []*api.TypeEx{nil}}}, Names: []string{"p"}}, "fn({a: any}) -> any", 2, nil},
	} {
		ch := checker(t)
		if got := ch.Synth(c.e); ty.Text(got) != c.want || ch.Cost() != c.cost {
			t.Errorf("%d: %s, the cost %d", i, ty.Text(got), ch.Cost())
		}
		told(t, c.want, ch.Diags(), c.told...)
	}
}

func TestCheck(t *testing.T) {
	ch := checker(t)
	ch.Check(expr(t, "1"), intT)
	ch.Check(expr(t, "  s"), intT)
	ch.Check(expr(t, "    x"), intT)
	ch.Check(expr(t, "a"), intT)
	ch.Check(nil, intT)
	told(t, "Check", ch.Diags(), 2, api.DgWrong, 4, api.DgName)
	if ch.Cost() != 4+5 {
		t.Errorf("the cost %d", ch.Cost())
	}
}

// TestCheckOfNothing: an expression that is none is any, and has no place.
func TestCheckOfNothing(t *testing.T) {
	c := infer.New(scope(t), func(a, b *api.Type) (bool, uint64) { return a.Kind != api.TyAny, 5 })
	c.Check(nil, intT)
	if l := c.Diags(); !slices.Equal(l, []api.Diag{{Path: "m", Code: api.DgWrong}}) || c.Cost() != 5 {
		t.Errorf("%v, the cost %d", l, c.Cost())
	}
}

func TestResolve(t *testing.T) {
	ch := checker(t)
	for _, c := range []struct {
		source, want string
		cost         uint64
	}{{"int", "int", 1}, {"{a: N, b: fn(u.V) -> any}", "{a: m.N, b: fn(l.V) -> any}", 5}, {"X | int", "any", 3}} {
		before := ch.Cost()
		if got := ch.Resolve(parsed(t, "type T = "+c.source)[0].T); ty.Text(got) != c.want || ch.Cost()-before != c.cost {
			t.Errorf("%s: %s, the cost %d", c.source, ty.Text(got), ch.Cost()-before)
		}
	}
	if got := ch.Resolve(nil); ty.Text(got) != "any" || ch.Cost() != 9 {
		t.Error("none")
	}
	told(t, "Resolve", ch.Diags(), 1, api.DgType)
}

func TestBind(t *testing.T) {
	ch := checker(t)
	ch.Bind("n", intT)
	ch.Bind("n", strT)
	if got := ch.Synth(expr(t, "n")); ty.Text(got) != "str" {
		t.Error(ty.Text(got))
	}
	for _, x := range []*api.Type{{}, named("")} {
		ch.Bind("n", x)
		if got := ch.Synth(expr(t, "n")); ty.Text(got) != "any" {
			t.Error(ty.Text(got))
		}
	}
	ch.Synth(expr(t, "let n = 1 in fn(n: bool, n) => n"))
	if got := ch.Synth(expr(t, "n")); ty.Text(got) != "any" {
		t.Error("what was bound is bound no more")
	}
	ch.Diags()
	if l := ch.Diags(); len(l) != 0 {
		t.Error(l)
	}
	ch.Synth(expr(t, "zz"))
	ch.Diags()[0].At = 99
	told(t, "Diags", ch.Diags(), 0, api.DgName)
}

// TestWhatIsHandedIn: the function that New was handed is asked, and its costs are counted.
func TestWhatIsHandedIn(t *testing.T) {
	var asked []string
	answer := false
	c := infer.New(scope(t), func(a, b *api.Type) (bool, uint64) {
		asked = append(asked, ty.Text(a)+" "+ty.Text(b))
		return answer, 100
	})
	c.Synth(expr(t, `1 == "a"`))
	c.Synth(expr(t, `1 + "a"`))
	c.Synth(expr(t, `(if true then fn(x: int) => 1 else fn(x: str) => 1)(1)`))
	want := "int str, str int, int int, str int, bool bool, int int"
	if got := strings.Join(asked, ", "); got != want || c.Cost() != 600+3+3+10 {
		t.Errorf("asked %s; %d", got, c.Cost())
	}
	answer, asked = true, nil
	c.Synth(expr(t, `1 == "a"`))
	c.Synth(expr(t, `(if true then fn(x: int) => 1 else fn(x: str) => 1)(1)`))
	if got := strings.Join(asked, ", "); got != "int str, bool bool, int int, int str" {
		t.Errorf("asked %s", got)
	}
}

func TestNoChecker(t *testing.T) {
	if infer.New(nil, sub.Sub) != nil || infer.New(scope(t), nil) != nil {
		t.Error("a checker of nothing")
	}
	var none *infer.Checker
	none.Bind("n", intT)
	none.Check(expr(t, "1"), strT)
	if none.Synth(expr(t, "1")) != nil || none.Resolve(parsed(t, "type T = int")[0].T) != nil || len(none.Diags()) > 0 || none.Cost() != 0 {
		t.Error("a checker that is none")
	}
}

// maker makes expressions and written types of what rnd chooses.
type maker struct{ rnd *rand.Rand }

func (m maker) typ(deep int) *api.TypeEx {
	kind := 1 + m.rnd.Intn(api.LastTx)
	if deep == 0 {
		kind = 1 + m.rnd.Intn(api.TxName)
	}
	t := &api.TypeEx{Kind: kind}
	switch kind {
	case api.TxName:
		t.Name = []string{"N", "R", "Big"}[m.rnd.Intn(3)]
	case api.TxRec:
		t.Names, t.Args = []string{"a", "b"}, []*api.TypeEx{m.typ(deep - 1), m.typ(deep - 1)}
	case api.TxFun:
		t.Args, t.Ret = []*api.TypeEx{m.typ(deep - 1)}, m.typ(deep-1)
	case api.TxUnion:
		t.Args = []*api.TypeEx{m.typ(deep - 1), m.typ(deep - 1)}
	}
	return t
}

func (m maker) expr(deep int) *api.Expr {
	kind := 1 + m.rnd.Intn(api.LastEx)
	if deep == 0 {
		kind = 1 + m.rnd.Intn(api.ExName)
	}
	e := &api.Expr{Kind: kind, At: m.rnd.Intn(50)}
	in := func() *api.Expr { return m.expr(deep - 1) }
	maybe := func() *api.TypeEx {
		if m.rnd.Intn(3) == 0 {
			return nil
		}
		return m.typ(2)
	}
	switch kind {
	case api.ExName:
		e.Text = []string{"i", "s", "b", "a", "f", "p", "q"}[m.rnd.Intn(7)]
	case api.ExField:
		e.L, e.Text = in(), []string{"a", "b", "n"}[m.rnd.Intn(3)]
	case api.ExRec:
		e.Names, e.Args = []string{"a", "b"}[:1+m.rnd.Intn(2)], []*api.Expr{in(), in()}
		e.Args = e.Args[:len(e.Names)]
	case api.ExCall:
		e.L, e.Args = in(), []*api.Expr{in()}
	case api.ExFun:
		e.Names, e.Types, e.L = []string{"p"}, []*api.TypeEx{maybe()}, in()
	case api.ExIf:
		e.L, e.R, e.C = in(), in(), in()
	case api.ExLet:
		e.Text, e.T, e.L, e.R = []string{"p", "q"}[m.rnd.Intn(2)], maybe(), in(), in()
	case api.ExBin:
		e.Text, e.L, e.R = strings.Fields("or and == < + - .. *")[m.rnd.Intn(8)], in(), in()
	case api.ExUn:
		e.Text, e.L = []string{"not", "-"}[m.rnd.Intn(2)], in()
	case api.ExAs:
		e.L, e.T = in(), m.typ(2)
	case api.ExRoll:
		e.L, e.T = in(), &api.TypeEx{Kind: api.TxName, Name: "N"}
	case api.ExUnroll:
		e.L = in()
	}
	return e
}

// looser is a type in some of whose parts any stands.
func (m maker) looser(t *api.TypeEx) *api.TypeEx {
	if t == nil {
		return nil
	}
	if m.rnd.Intn(4) == 0 {
		return &api.TypeEx{Kind: api.TxAny}
	}
	c := *t
	c.Args = nil
	for _, x := range t.Args {
		c.Args = append(c.Args, m.looser(x))
	}
	c.Ret = m.looser(t.Ret)
	return &c
}

// looserIn is an expression in whose types, of names and behind a colon, any stands in some parts.
func (m maker) looserIn(e *api.Expr) *api.Expr {
	if e == nil {
		return nil
	}
	c := *e
	if e.Kind != api.ExRoll {
		c.T = m.looser(e.T)
	}
	c.Types, c.Args = nil, nil
	for _, x := range e.Types {
		c.Types = append(c.Types, m.looser(x))
	}
	for _, x := range e.Args {
		c.Args = append(c.Args, m.looserIn(x))
	}
	c.L, c.R, c.C = m.looserIn(e.L), m.looserIn(e.R), m.looserIn(e.C)
	return &c
}

func parts(e *api.Expr) uint64 {
	if e == nil {
		return 0
	}
	n := 1 + parts(e.L) + parts(e.R) + parts(e.C) + written(e.T)
	for _, x := range e.Args {
		n += parts(x)
	}
	for _, x := range e.Types {
		n += written(x)
	}
	return n
}

func written(t *api.TypeEx) uint64 {
	if t == nil {
		return 0
	}
	n := 1 + written(t.Ret)
	for _, x := range t.Args {
		n += written(x)
	}
	return n
}

// TestWhatFollows: what Synth answers may be; the cost is bound; and where any stands in a type, nothing is told that was not told ahead, but for sizes.
func TestWhatFollows(t *testing.T) {
	m := maker{rand.New(rand.NewSource(1))}
	quiet := 0
	for range 30000 {
		e := m.expr(1 + m.rnd.Intn(4))
		c := checker(t)
		if got := c.Synth(e); ty.Check(got) != api.OK {
			t.Fatalf("%v may not be", got)
		}
		if c.Cost() > 7300*parts(e) {
			t.Fatalf("the cost %d of %d", c.Cost(), parts(e))
		}
		if len(c.Diags()) > 0 {
			continue
		}
		quiet++
		for range 3 {
			c = checker(t)
			c.Synth(m.looserIn(e))
			for _, d := range c.Diags() {
				if d.Code != api.DgSize {
					t.Fatalf("%v is told", d)
				}
			}
		}
	}
	if quiet < 2000 {
		t.Errorf("of %d alone nothing is told", quiet)
	}
}
