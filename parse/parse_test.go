package parse_test

import (
	"errors"
	"math/rand"
	"strconv"
	"strings"
	"testing"

	"lodger/api"
	"lodger/lex"
	"lodger/parse"
)

// writer writes what was parsed as a text: each kind's name, with its place, its fields, and its parts.
type writer struct {
	strings.Builder
	places bool
}

func (w *writer) head(s string, at int) {
	w.WriteString(s)
	if w.places {
		w.WriteString("@" + strconv.Itoa(at))
	}
}

func (w *writer) typ(t *api.TypeEx) {
	if t == nil {
		w.WriteString("_")
		return
	}
	names := []string{"?", "int", "bool", "str", "nil", "any", "name", "rec", "fun", "union"}
	w.head(names[t.Kind], t.At)
	switch t.Kind {
	case api.TxName:
		w.WriteString(":" + t.Alias + ":" + t.Name)
	case api.TxRec, api.TxFun, api.TxUnion:
		w.WriteString("(")
		for i, x := range t.Args {
			if i < len(t.Names) {
				w.WriteString(t.Names[i] + " ")
			}
			w.typ(x)
			w.WriteString(",")
		}
		if t.Kind == api.TxFun {
			w.typ(t.Ret)
		}
		w.WriteString(")")
	}
}

func (w *writer) params(names []string, types []*api.TypeEx) {
	w.WriteString("[")
	for i, n := range names {
		w.WriteString(n + " ")
		w.typ(types[i])
		w.WriteString(",")
	}
	w.WriteString("]")
}

func (w *writer) expr(e *api.Expr) {
	if e == nil {
		w.WriteString("_")
		return
	}
	names := []string{"?", "Int", "Str", "True", "False", "Nil", "Name", "Field", "Rec", "Call", "Fun", "If", "Let", "Bin", "Un", "As", "Roll", "Unroll"}
	w.head(names[e.Kind], e.At)
	if e.Kind == api.ExInt {
		w.WriteString(":" + strconv.FormatInt(e.N, 10))
	}
	if e.Text != "" || e.Kind == api.ExStr {
		w.WriteString(":" + e.Text)
	}
	if e.Kind == api.ExFun {
		w.params(e.Names, e.Types)
	}
	if e.T != nil {
		w.WriteString(":")
		w.typ(e.T)
	}
	if e.L == nil && e.Kind != api.ExRec {
		return
	}
	w.WriteString("(")
	if e.L != nil {
		w.expr(e.L)
	}
	for _, x := range []*api.Expr{e.R, e.C} {
		if x != nil {
			w.WriteString(",")
			w.expr(x)
		}
	}
	for i, x := range e.Args {
		w.WriteString(";")
		if i < len(e.Names) {
			w.WriteString(e.Names[i] + " ")
		}
		w.expr(x)
	}
	w.WriteString(")")
}

func written(l []*api.Decl, places bool) string {
	w := &writer{places: places}
	for _, d := range l {
		w.head([]string{"?", "import", "type", "let", "fun"}[d.Kind], d.At)
		w.WriteString(" " + d.Name)
		if d.Kind == api.DeImport {
			w.WriteString(" " + strconv.Quote(d.Text))
		}
		if d.Kind == api.DeFun {
			w.params(d.Names, d.Types)
		}
		if d.T != nil {
			w.WriteString(":")
			w.typ(d.T)
		}
		if d.E != nil {
			w.WriteString("=")
			w.expr(d.E)
		}
		w.WriteString("\n")
	}
	return w.String()
}

func parsed(t *testing.T, source string, places bool) string {
	t.Helper()
	l, err := parse.Parse(source)
	if err != nil {
		t.Errorf("Parse(%q): %v", source, err)
	}
	return written(l, places)
}

func TestDeclarations(t *testing.T) {
	for _, c := range []struct{ source, want string }{
		{"", ""},
		{" # nothing", ""},
		{"let x = 1 + 2 * y.z(3)", "let@0 x=Bin@10:+(Int@8:1,Bin@14:*(Int@12:2,Call@19(Field@17:z(Name@16:y);Int@20:3)))\n"},
		{"fun f(a: int, b) = fn(c) => c", "fun@0 f[a int@9,b _,]=Fun@19[c _,](Name@28:c)\n"},
		{"type T = {h: int | nil} | fn(T) -> u.V", "type@0 T:union@9(rec@9(h union@13(int@13,nil@19,),),fun@26(name@29::T,name@35:u:V),)\n"},
		{` import "a/../b" as x`, "import@1 x \"a/../b\"\n"},
		{"let x: int = y", "let@0 x:int@7=Name@13:y\n"},
		{"fun f(): str = \"\"", "fun@0 f[]:str@9=Str@15:\n"},
		{"let a = b let c = d", "let@0 a=Name@8:b\nlet@10 c=Name@18:d\n"},
		{"type A = int type B = A", "type@0 A:int@9\ntype@13 B:name@22::A\n"},
	} {
		if got := parsed(t, c.source, true); got != c.want {
			t.Errorf("%s:\n%snot\n%s", c.source, got, c.want)
		}
	}
}

func TestTypes(t *testing.T) {
	for _, c := range []struct{ source, want string }{
		{"int", "int@9"}, {"bool", "bool@9"}, {"str", "str@9"}, {"nil", "nil@9"}, {"any", "any@9"}, {"N", "name@9::N"}, {"u.N", "name@9:u:N"},
		{"((int))", "int@11"},
		{"(int | str) | nil", "union@9(union@10(int@10,str@16,),nil@23,)"},
		{"((int | str))", "union@11(int@11,str@17,)"},
		{"int | fn() -> int | str", "union@9(int@9,fun@15(union@23(int@23,str@29,)),)"},
		{"(fn() -> int) | str", "union@9(fun@10(int@18),str@25,)"},
		{"fn(int, {}) -> (nil)", "fun@9(int@12,rec@17(),nil@25)"},
		{"{a: int, b: {c: u.V}}", "rec@9(a int@13,b rec@21(c name@25:u:V,),)"},
	} {
		if got := parsed(t, "type T = "+c.source, true); got != "type@0 T:"+c.want+"\n" {
			t.Errorf("%s: %snot %s", c.source, got, c.want)
		}
	}
}

func TestExpressions(t *testing.T) {
	for _, c := range []struct{ source, want string }{
		{"0", "Int@8:0"}, {`"a b"`, "Str@8:a b"}, {"true", "True@8"}, {"false", "False@8"}, {"nil", "Nil@8"}, {"x", "Name@8:x"}, {"(x)", "Name@9:x"},
		{"{}", "Rec@8()"}, {"{a = 1, b = x}", "Rec@8(;a Int@13:1;b Name@20:x)"},
		{"(x: int)", "As@8:int@12(Name@9:x)"}, {"((x: A): u.B)", "As@8:name@17:u:B(As@9:name@13::A(Name@10:x))"},
		{"roll N(1)", "Roll@8:name@13::N(Int@15:1)"}, {"roll u.N(1)", "Roll@8:name@13:u:N(Int@17:1)"}, {"unroll(x)", "Unroll@8(Name@15:x)"},
		{"if a then b else c", "If@8(Name@11:a,Name@18:b,Name@25:c)"},
		{"let a = 1 in a", "Let@8:a(Int@16:1,Name@21:a)"}, {"let a: int = 1 in a", "Let@8:a:int@15(Int@21:1,Name@26:a)"},
		{"fn() => 1", "Fun@8[](Int@16:1)"}, {"fn(a: int, b) => a", "Fun@8[a int@14,b _,](Name@25:a)"},
		{"a - b - c", "Bin@14:-(Bin@10:-(Name@8:a,Name@12:b),Name@16:c)"},
		{"a == b < c", "Bin@15:<(Bin@10:==(Name@8:a,Name@13:b),Name@17:c)"},
		{"a .. b + c", "Bin@15:+(Bin@10:..(Name@8:a,Name@13:b),Name@17:c)"},
		{"a or b and c", "Bin@10:or(Name@8:a,Bin@15:and(Name@13:b,Name@19:c))"},
		{"a and b or c", "Bin@16:or(Bin@10:and(Name@8:a,Name@14:b),Name@19:c)"},
		{"a * b + c < d", "Bin@18:<(Bin@14:+(Bin@10:*(Name@8:a,Name@12:b),Name@16:c),Name@20:d)"},
		{"a * (b + c)", "Bin@10:*(Name@8:a,Bin@15:+(Name@13:b,Name@17:c))"},
		{"not a == b", "Bin@14:==(Un@8:not(Name@12:a),Name@17:b)"},
		{"not not - a.b", "Un@8:not(Un@12:not(Un@16:-(Field@19:b(Name@18:a))))"},
		{"- a * b", "Bin@12:*(Un@8:-(Name@10:a),Name@14:b)"}, {"a - -1", "Bin@10:-(Name@8:a,Un@12:-(Int@13:1))"},
		{"f()(1, 2).x", "Field@17:x(Call@11(Call@9(Name@8:f);Int@12:1;Int@15:2))"},
		{"1.x", "Field@9:x(Int@8:1)"}, {"{}.x(y)", "Call@12(Field@10:x(Rec@8());Name@13:y)"},
		{"f(if a then b else c, let x = 1 in x)", "Call@9(Name@8:f;If@10(Name@13:a,Name@20:b,Name@27:c);Let@30:x(Int@38:1,Name@43:x))"},
		{`"or" .. "+"`, "Bin@13:..(Str@8:or,Str@16:+)"},
	} {
		if got := parsed(t, "let x = "+c.source, true); got != "let@0 x="+c.want+"\n" {
			t.Errorf("%s: %snot %s", c.source, got, c.want)
		}
	}
}

// TestSignsThatBind: of each two signs the one that binds more strongly takes its sides first, and of two that bind alike the left one.
func TestSignsThatBind(t *testing.T) {
	strengths := map[string]int{"or": 1, "and": 2, "==": 3, "<": 3, "+": 4, "-": 4, "..": 4, "*": 5}
	for one, m := range strengths {
		for two, n := range strengths {
			want := "let x=Bin:" + two + "(Bin:" + one + "(Name:a,Name:b),Name:c)\n"
			if n > m {
				want = "let x=Bin:" + one + "(Name:a,Bin:" + two + "(Name:b,Name:c))\n"
			}
			if got := parsed(t, "let x = a "+one+" b "+two+" c", false); got != want {
				t.Errorf("a %s b %s c: %s", one, two, got)
			}
		}
		for _, sign := range []string{"not", "-"} {
			want := "let x=Bin:" + one + "(Un:" + sign + "(Name:a),Name:b)\n"
			if got := parsed(t, "let x = "+sign+" a "+one+" b", false); got != want {
				t.Errorf("%s a %s b: %s", sign, one, got)
			}
		}
	}
}

func wrong(t *testing.T, source string, code api.Errno, at int) {
	t.Helper()
	l, err := parse.Parse(source)
	var f *api.Fault
	if !errors.As(err, &f) || *f != (api.Fault{Code: code, At: at}) || len(l) > 0 {
		t.Errorf("Parse(%q): %v, not %d at %d", source, err, code, at)
	}
}

func TestWrongSources(t *testing.T) {
	for _, c := range []struct {
		source string
		at     int
	}{
		{"let = 1", 4}, {"let x 1", 6}, {"let x = (1", 10}, {"x", 0}, {"let x = if 1 then 2", 19}, {"let x = 1 + not", 15},
		{"let x = ", 8}, {"1", 0}, {"let", 3}, {"let x", 5}, {"let x =", 7}, {"let int = 1", 4}, {"let x = 1 1", 10}, {"let x = 1 $", 10}, {"$", 0},
		{"= let $", 6}, // the lexer's fault, wherever it stands
		{"import x as y", 7}, {`import "x" y`, 11}, {`import "x" as`, 13}, {`import "x" as "y"`, 14}, {`import "x" as let`, 14},
		{"type T int", 7}, {"type T = ", 9}, {"type T = 1", 9}, {"type T = |", 9}, {"type T = int |", 14}, {"type T = (int", 13}, {"type T = int)", 12},
		{"type T = int.x", 12}, {"type T = u.", 11}, {"type T = u.v.w", 12}, {"type T = u.int", 11}, {"type T = {a int}", 12}, {"type T = {a: int,}", 17}, {"type T = {,}", 10},
		{"type T = {a = int}", 12}, {"type T = fn", 11}, {"type T = fn()", 13}, {"type T = fn(,) -> int", 12}, {"type T = fn(int,) -> int", 16}, {"type T = fn() => int", 14}, {"type T = fn() int", 14},
		{"fun f = 1", 6}, {"fun (a) = 1", 4}, {"fun f(a,) = 1", 8}, {"fun f(a: ) = 1", 9}, {"fun f(1) = 1", 6}, {"fun f(a b) = 1", 8}, {"fun f() 1", 8}, {"fun f() => 1", 8}, {"fun f(): = 1", 9},
		{"let x = ()", 9}, {"let x = (1: )", 12}, {"let x = (1: int", 15}, {"let x = (1, 2)", 10}, {"let x = f(", 10}, {"let x = f(1", 11}, {"let x = f(1,)", 12}, {"let x = f(,)", 10}, {"let x = f(a b)", 12},
		{"let x = a.", 10}, {"let x = a.1", 10}, {"let x = a.let", 10}, {"let x = {a}", 10}, {"let x = {a: 1}", 10}, {"let x = {a = 1,}", 15}, {"let x = {1 = 1}", 9}, {"let x = {a = 1 b = 2}", 15},
		{"let x = 1 + if a then b else c", 12}, {"let x = 1 + fn() => 1", 12}, {"let x = not let a = 1 in a", 12}, {"let x = a + ", 12}, {"let x = * a", 8}, {"let x = + a", 8}, {"let x = a not b", 10}, {"let x = a or or b", 13},
		{"let x = if a else b", 13}, {"let x = if then a", 11}, {"let x = let y = 2", 17}, {"let x = let y 2 in y", 14}, {"let x = 1 let y = 2 in y", 20}, {"let x = fn(a) -> a", 14}, {"let x = fn a => a", 11}, {"let x = fun f() = 1", 8},
		{"let x = roll (1)", 13}, {"let x = roll N 1", 15}, {"let x = roll int(1)", 13}, {"let x = roll N()", 15}, {"let x = roll u.(1)", 15}, {"let x = roll N(1, 2)", 16}, {"let x = unroll x", 15}, {"let x = unroll()", 15}, {"let x = unroll(1: int)", 16},
		{"let x = then", 8}, {"let x = int", 8}, {"let x = as", 8}, {"let x == 1", 6}, {"let x: int, = 1", 10}, {"let x = a ) b", 10}, {"let x = a } b", 10}, {"let x = a, b", 9}, {"let x = a : b", 10}, {"let x = a = b", 10}, {"let x = a | b", 10},
	} {
		wrong(t, c.source, api.ErrSyntax, c.at)
	}
}

// TestDeep has for each way to nest the deepest source that may be, and one that is deeper.
func TestDeep(t *testing.T) {
	for _, c := range []struct {
		ahead, open, kernel, shut string
		most                      int // how many may be open
		first                     int // where in it the first one that is deeper begins; its end, if it says 0
	}{
		{"let x = ", "(", "1", ")", 39, 0},
		{"let x = ", "-", "1", "", 39, 0},
		{"let x = ", "not ", "a", "", 39, 0},
		{"let x = ", "f(", "1", ")", 39, 0},
		{"let x = ", "f(", "", ")", 40, 0}, // without an argument nothing begins there
		{"let x = ", "{a = ", "1", "}", 39, 0},
		{"let x = ", "{a = ", "{}", "}", 39, 0},
		{"let x = ", "if ", "1", " then 1 else 1", 39, 0},
		{"let x = ", "if 1 then ", "1", " else 1", 39, 3},
		{"let x = ", "if 1 then 1 else ", "1", "", 39, 3},
		{"let x = ", "let a = ", "1", " in 1", 39, 0},
		{"let x = ", "let a = 1 in ", "1", "", 39, 8},
		{"let x = ", "fn() => ", "1", "", 39, 0},
		{"let x = ", "unroll(", "1", ")", 39, 0},
		{"let x = ", "roll u.N(", "1", ")", 39, 0},
		{"let x = ", "(1 + ", "1", ")", 39, 1},
		{"let x: ", "(", "int", ")", 39, 0},
		{"let x: ", "{a: ", "int", "}", 39, 0},
		{"let x: ", "fn() -> ", "int", "", 39, 0},
		{"let x: ", "fn(", "int", ") -> int", 39, 0},
		{"let x: ", "int | (", "int", ")", 39, 0},
	} {
		tail := ""
		if strings.HasSuffix(c.ahead, ": ") {
			tail = " = 1"
		}
		source := func(n int) string {
			return c.ahead + strings.Repeat(c.open, n) + c.kernel + strings.Repeat(c.shut, n) + tail
		}
		parsed(t, source(c.most), false)
		if c.first == 0 {
			c.first = len(c.open)
		}
		at := len(c.ahead) + len(c.open)*39 + c.first
		if c.kernel == "" {
			wrong(t, source(41), api.ErrDeep, at)
			continue
		}
		wrong(t, source(40), api.ErrDeep, at)
		wrong(t, source(100), api.ErrDeep, at)
		// Ahead of what is wrong there; behind what is wrong ahead.
		wrong(t, c.ahead+strings.Repeat(c.open, 40)+"=", api.ErrDeep, at)
		wrong(t, c.ahead+strings.Repeat(c.open, 40), api.ErrDeep, at)
		wrong(t, "= "+source(100), api.ErrSyntax, 0)
	}
}

// TestDepthsMix: types within expressions count on, and what is over counts no more.
func TestDepthsMix(t *testing.T) {
	open := strings.Repeat("(", 38)
	shut := strings.Repeat(")", 38)
	parsed(t, "let x = "+open+"(1: int)"+shut, false)
	wrong(t, "let x = "+open+"(1: {a: int})"+shut, api.ErrDeep, 8+38+1+1+1+1+4)
	wrong(t, "let x = "+open+"(--1)"+shut, api.ErrDeep, 8+38+2)
	parsed(t, "let x = "+open+"-1"+shut, false)
	parsed(t, "let x = "+open+"fn(a: int) => 1"+shut, false)
	wrong(t, "let x = "+open+"fn(a: (int)) => 1"+shut, api.ErrDeep, 8+38+7)
	parsed(t, "let x = "+open+"(1)"+shut+" + "+open+"(1)"+shut+" let y = "+open+"(1)"+shut, false)
	parsed(t, "let x = f"+strings.Repeat("(1)", 500)+strings.Repeat(".a", 500)+strings.Repeat(" + 1", 500), false)
	parsed(t, "let x: int"+strings.Repeat(" | int", 500)+" = 1", false)
	wrong(t, "let x = -f"+strings.Repeat("(-g", 25), api.ErrDeep, 8+3*20)
}

// source makes a source of the rules, of what rnd chooses.
type source struct{ rnd *rand.Rand }

func (s source) pick(l ...string) string { return l[s.rnd.Intn(len(l))] }

func (s source) name() string { return s.pick("a", "b", "_c9", "Long_name", "x") }

func (s source) many(one func() string) string {
	var l []string
	for range s.rnd.Intn(3) {
		l = append(l, one())
	}
	return strings.Join(l, " , ")
}

func (s source) typ(deep int) string {
	if deep == 0 {
		return s.pick("int", "bool", "str", "nil", "any", "N", "u . V")
	}
	in := func() string { return s.typ(deep - 1) }
	switch s.rnd.Intn(5) {
	case 0:
		return in() + " | ( " + in() + " )"
	case 1:
		return "{ " + s.many(func() string { return s.name() + " : " + in() }) + " }"
	case 2:
		return "( fn ( " + s.many(in) + " ) -> " + in() + " )"
	case 3:
		return "fn ( " + s.many(in) + " ) -> " + in()
	}
	return in()
}

func (s source) maybe(deep int) string {
	if s.rnd.Intn(2) == 0 {
		return ""
	}
	return " : " + s.typ(deep)
}

func (s source) params(deep int) string {
	return "( " + s.many(func() string { return s.name() + s.maybe(deep) }) + " )"
}

func (s source) expr(deep int) string {
	if deep == 0 {
		return s.pick("1", "0", "true", "false", "nil", `"a\n\"\\"`, "a", "b", "{ }")
	}
	in := func() string { return s.expr(deep - 1) }
	switch s.rnd.Intn(12) {
	case 0:
		return "if " + in() + " then " + in() + " else " + in()
	case 1:
		return "let " + s.name() + s.maybe(deep-1) + " = " + in() + " in " + in()
	case 2:
		return "fn " + s.params(deep-1) + " => " + in()
	case 3, 4:
		return "( " + in() + " ) " + s.pick("or", "and", "==", "<", "+", "-", "..", "*") + " ( " + in() + " )"
	case 5:
		return s.pick("not", "-") + " ( " + in() + " )"
	case 6:
		return "( " + in() + " ) . " + s.name()
	case 7:
		return "( " + in() + " ) ( " + s.many(in) + " )"
	case 8:
		return "{ " + s.many(func() string { return s.name() + " = " + in() }) + " }"
	case 9:
		return "( " + in() + " : " + s.typ(deep-1) + " )"
	case 10:
		return "roll " + s.pick("N", "u . V") + " ( " + in() + " )"
	}
	return "unroll ( " + in() + " )"
}

func (s source) module(deep int) string {
	out := ""
	for range 1 + s.rnd.Intn(3) {
		switch s.rnd.Intn(4) {
		case 0:
			out += `import "a/b" as ` + s.name()
		case 1:
			out += "type " + s.name() + " = " + s.typ(deep)
		case 2:
			out += "let " + s.name() + s.maybe(deep) + " = " + s.expr(deep)
		case 3:
			out += "fun " + s.name() + " " + s.params(deep) + s.maybe(deep) + " = " + s.expr(deep)
		}
		out += " "
	}
	return out
}

// TestBlanksAndParentheses: other blanks and remarks change places alone, parentheses around an expression nothing.
func TestBlanksAndParentheses(t *testing.T) {
	s := source{rand.New(rand.NewSource(1))}
	for range 1500 {
		text := s.module(s.rnd.Intn(4))
		want := parsed(t, text, false)
		if got := parsed(t, strings.ReplaceAll(text, " ", "\n # a remark\n\t"), false); got != want {
			t.Fatalf("%s: %s", text, got)
		}
		e := s.expr(s.rnd.Intn(3))
		if got, want := parsed(t, "let x = ((("+e+")))", false), parsed(t, "let x = "+e, false); got != want {
			t.Fatalf("%s: %s", e, got)
		}
	}
}

// TestPlaces: a source that is cut behind one of its tokens is wrong at its end, or is one; a token that stands nowhere is wrong where it stands, if not what is ahead is.
func TestPlaces(t *testing.T) {
	s := source{rand.New(rand.NewSource(2))}
	for range 800 {
		text := s.module(2)
		tokens, err := lex.Lex(text)
		if err != nil {
			t.Fatal(err)
		}
		cut := tokens[s.rnd.Intn(len(tokens))].At
		if _, err := parse.Parse(text[:cut]); err != nil && *err.(*api.Fault) != (api.Fault{Code: api.ErrSyntax, At: cut}) {
			t.Fatalf("%q: %v", text[:cut], err)
		}
		wrong(t, text[:cut]+"=> => "+text[cut:], api.ErrSyntax, placeOf(t, text, cut))
	}
}

// placeOf is where two => put at cut are wrong: the second one, where the first one may stand.
func placeOf(t *testing.T, text string, cut int) int {
	t.Helper()
	if _, err := parse.Parse(text[:cut] + "=>"); err.(*api.Fault).At == cut {
		return cut
	}
	return cut + 3
}

// TestAnyTokens: whatever stands there, declarations or a fault at one of the tokens come of it.
func TestAnyTokens(t *testing.T) {
	rnd := rand.New(rand.NewSource(3))
	words := strings.Fields(`import as type let fun fn if then else in and or not roll unroll true nil int any = : . , ( ) { } | -> => < == + - .. * a b 1 "s"`)
	for range 20000 {
		text := []string{"", "let a = ", "type T = ", "fun f ( "}[rnd.Intn(4)]
		for range rnd.Intn(12) {
			text += words[rnd.Intn(len(words))] + " "
		}
		l, err := parse.Parse(text)
		if err == nil {
			written(l, true)
			continue
		}
		f := err.(*api.Fault)
		if f.At > len(text) || f.At < len(text) && (text[f.At] == ' ' || f.At > 0 && text[f.At-1] != ' ') || len(l) > 0 {
			t.Fatalf("%q: %v", text, err)
		}
	}
}
