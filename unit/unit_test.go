package unit_test

import (
	"fmt"
	"math/rand"
	"slices"
	"strings"
	"testing"

	"lodger/api"
	"lodger/parse"
	"lodger/print"
	"lodger/sub"
	"lodger/tally"
	"lodger/ty"
	"lodger/unit"
)

func check(text string, imports ...api.Import) api.Result {
	return unit.Check("m", text, imports, sub.Sub)
}

// library is what comes of a module l.
func library(t *testing.T, text string) api.Import {
	t.Helper()
	r := unit.Check("l", text, nil, sub.Sub)
	if len(r.Diags) > 0 {
		t.Fatal(r.Diags)
	}
	return api.Import{Path: "l", There: true, Sum: r.Sum}
}

func exports(l []api.Export) string {
	var out []string
	for _, x := range l {
		out = append(out, x.Name+": "+ty.Text(x.T))
	}
	return strings.Join(out, ", ")
}

func TestModules(t *testing.T) {
	l := library(t, `type V = str type W = {v: V} let v = roll V("a") fun f(x: V): int = 1`)
	for _, c := range []struct {
		text, diags, values, types string
	}{
		{"", "", "", ""},
		{"let x = 1 let y: str = x fun f(a: int) = a + x", "23 10", "f: fn(int) -> int, x: int, y: str", ""},
		{"type T = {v: T | nil} fun g(a: T): int = g(a) let g = 2", "46 4", "g: fn(m.T) -> int", "T: {v: m.T | nil}"},
		{"fun f(a: int) = f(f) fun g(a: int): str = g(g(1))", "45 10", "f: fn(int) -> any, g: fn(int) -> str", ""},
		{"fun f(): int = x", "15 6", "f: fn() -> int", ""},
		{"fun f(): str = 1", "0 10", "f: fn() -> str", ""},
		{"fun f(a: X): Y = a", "9 5, 13 5", "f: fn(any) -> any", ""},
		{"let x = y let y = 1 let z = y", "8 6", "x: any, y: int, z: int", ""},
		{`let x = 1 let x = "a" let y = x + 1`, "10 4", "x: int, y: int", ""},
		{`let x = 1 fun x(a): str = "a" let y = x + 1`, "10 4", "x: int, y: int", ""},
		{`fun x(a) = x(1)(2) fun x() = x .. "" let y = x`, "19 4", "x: fn(any) -> any, y: fn(any) -> any", ""},
		{"let x = 1 let x: str = 2", "10 4, 23 10", "x: int", ""},
		{"let x: str | int = 1 let y = x + 1", "29 10", "x: int | str, y: int", ""},
		{"let x: X = 1", "7 5", "x: any", ""},
		{`import "l" as u let x = u.f(u.v) let y = u.g let z = unroll(roll u.W({v = u.v})).v`, "42 6", "x: int, y: any, z: l.V", ""},
		{`import "l" as u import "l" as u import "k" as w let x = w.x type A = u.V type B = u.X type A = int`, "16 4, 32 3, 82 5, 86 4", "x: any", "A: l.V, B: any"},
		{"type B = {a: int, a: int} type A = B let z = 1 let a = 2", "9 4", "a: int, z: int", "A: m.B, B: any"},
		{"let x = {a = y, b = y}", "13 6, 20 6", "x: {a: any, b: any}", ""},
		{"let x: int = (y: int).z", "14 6, 21 7", "x: int", ""},
	} {
		r := check(c.text, l)
		var diags []string
		for _, d := range r.Diags {
			if d.Path != "m" {
				t.Errorf("%s: the path %s", c.text, d.Path)
			}
			diags = append(diags, fmt.Sprint(d.At, " ", d.Code))
		}
		if got := strings.Join(diags, ", "); got != c.diags {
			t.Errorf("%s: told %s, not %s", c.text, got, c.diags)
		}
		if exports(r.Sum.Values) != c.values || exports(r.Sum.Types) != c.types || r.Sum.Path != "m" || r.Sum.Broken {
			t.Errorf("%s: %s; %s", c.text, exports(r.Sum.Values), exports(r.Sum.Types))
		}
	}
}

// alike: are two results, types as their texts?
func alike(a, b api.Result) bool {
	return slices.Equal(a.Diags, b.Diags) && a.Cost == b.Cost && a.Sum.Path == b.Sum.Path && a.Sum.Broken == b.Sum.Broken &&
		exports(a.Sum.Values) == exports(b.Sum.Values) && exports(a.Sum.Types) == exports(b.Sum.Types)
}

func TestNoSource(t *testing.T) {
	deep := "let x = " + strings.Repeat("(", 50)
	for _, c := range []struct {
		text string
		at   int
	}{{"let x = ", 7 + 1}, {"let x =", 7}, {"let x = $", 8}, {"x", 0}, {deep, 48}, {"let x = 1 let", 13}} {
		want := api.Result{Diags: []api.Diag{{Path: "m", At: c.at, Code: api.DgSyntax}}, Sum: api.Summary{Path: "m", Broken: true}, Cost: uint64(len(c.text)) + 1}
		if got := check(c.text); !alike(got, want) {
			t.Errorf("%s: %v", c.text, got)
		}
	}
	if got := unit.Check("m", "let x = 1", nil, nil); !alike(got, api.Result{}) {
		t.Errorf("without a function: %v", got)
	}
	if got := unit.Check("m", "let", nil, nil); !alike(got, api.Result{}) {
		t.Errorf("without a function: %v", got)
	}
}

func TestCosts(t *testing.T) {
	for _, c := range []struct {
		text string
		want uint64 // beside the text's bytes and 1
	}{
		{"", 0}, {"# nothing", 0}, {"let a = 1", 1}, {"let a: int = 1", 1 + 1 + 1}, {"let a: int | str = 1", 3 + 1 + 2}, {"type T = {a: int}", 0}, {`import "l" as u`, 0},
		{"fun f(a: int) = a", 1 + 1 + 1}, {"fun f(a) = a", 1 + 1}, {"fun f(a: int): int = a", 2 + 3 + 3}, {"fun f(a, b: int): int = a", 2 + 3 + 4}, {"let a = 1 let a = 2", 2},
	} {
		if got := check(c.text).Cost; got != c.want+uint64(len(c.text))+1 {
			t.Errorf("%s: %d, not %d", c.text, got-uint64(len(c.text))-1, c.want)
		}
	}
}

// TestEachOnce: what is told twice at a place is there once; the order is by places, then by codes.
func TestEachOnce(t *testing.T) {
	text := `fun f(a: X): int = "a" let y: str = (1: Y) let z = q`
	want := []api.Diag{{Path: "m", At: 0, Code: api.DgWrong}, {Path: "m", At: 9, Code: api.DgType}, {Path: "m", At: 40, Code: api.DgType}, {Path: "m", At: 51, Code: api.DgName}}
	if got := check(text).Diags; !slices.Equal(got, want) {
		t.Errorf("%v", got)
	}
	// At one place: a record is too large, and is no str then; two codes of one declaration.
	fields := ""
	for i := range 29 {
		fields += fmt.Sprintf("f%d: int, ", i)
	}
	text = "fun f(a: {" + fields + "z: int}, b: {" + fields + "z: int}): int = 1 fun f() = 2"
	got := check(text).Diags
	if !slices.Equal(got, []api.Diag{{Path: "m", At: 0, Code: api.DgSize}, {Path: "m", At: len(text) - len("fun f() = 2"), Code: api.DgTwice}}) {
		t.Errorf("%v", got)
	}
	if !slices.IsSortedFunc(got, func(a, b api.Diag) int { return a.At - b.At }) {
		t.Error("not in order")
	}
}

// TestTooLargeFunction: its name is any, inside and outside.
func TestTooLargeFunction(t *testing.T) {
	fields := ""
	for i := range 30 {
		fields += fmt.Sprintf("f%02d: int, ", i)
	}
	big := "{" + strings.TrimSuffix(fields, ", ") + "}"
	r := check("let ahead = 1 fun f(a: " + big + ", b: " + big + "): int = f let x = f")
	if exports(r.Sum.Values) != "ahead: int, f: any, x: any" || !slices.Equal(r.Diags, []api.Diag{{Path: "m", At: 14, Code: api.DgSize}}) {
		t.Errorf("%v, %s", r.Diags, exports(r.Sum.Values))
	}
}

// TestTooLargeResult: the type that a function says it has may be too large, though what it comes to is not.
func TestTooLargeResult(t *testing.T) {
	fields := ""
	for i := range 59 {
		fields += fmt.Sprintf("f%02d: int, ", i)
	}
	r := check("let ahead = 1 fun f(): {" + strings.TrimSuffix(fields, ", ") + "} = f")
	if exports(r.Sum.Values) != "ahead: int, f: any" || !slices.Equal(r.Diags, []api.Diag{{Path: "m", At: 14, Code: api.DgSize}}) {
		t.Errorf("%v, %s", r.Diags, exports(r.Sum.Values))
	}
}

func TestImports(t *testing.T) {
	for _, c := range []struct{ text, want string }{
		{`import "a/../b" as x import "b" as y import "" as z`, "b"}, {"", ""}, {`import "b" as x import "a" as x import "/b/" as y import "c/d" as q`, "b a c/d"}, {`import "b" as x let`, ""}, {`import "A" as x import ".." as y let x = 1 import "z" as z`, "z"}, {`import "b" as x $`, ""},
	} {
		if got := strings.Join(unit.Imports(c.text), " "); got != c.want {
			t.Errorf("%s: %s", c.text, got)
		}
	}
}

// TestPaths: what the path is changes names of types, and places of diagnostics, alone.
func TestPaths(t *testing.T) {
	r := unit.Check("a/b-c", "type T = int let x = roll T(1) let y = z", nil, sub.Sub)
	if exports(r.Sum.Values) != "x: a/b-c.T, y: any" || r.Sum.Path != "a/b-c" || !slices.Equal(r.Diags, []api.Diag{{Path: "a/b-c", At: 39, Code: api.DgName}}) {
		t.Errorf("%v", r)
	}
}

// TestSubIsAsked: what sub answers counts, and nothing else is asked.
func TestSubIsAsked(t *testing.T) {
	asked := 0
	no := func(a, b *api.Type) (bool, uint64) { asked++; return false, 1000 }
	r := unit.Check("m", "let x: int = 1 let y = x == x", nil, no)
	if asked != 3 || !slices.Equal(r.Diags, []api.Diag{{Path: "m", At: 13, Code: api.DgWrong}, {Path: "m", At: 25, Code: api.DgEqual}}) || r.Cost != 29+1+2+3+3000 {
		t.Errorf("%d, %v", asked, r)
	}
}

// module is a source of what rnd chooses, right or wrong.
func module(rnd *rand.Rand) string {
	pick := func(l ...string) string { return l[rnd.Intn(len(l))] }
	name := func() string { return pick("a", "b", "c", "f") }
	var typ, expr func(deep int) string
	typ = func(deep int) string {
		if deep == 0 {
			return pick("int", "str", "bool", "any", "nil", "T", "u.V", "X")
		}
		return pick("int", "{a: "+typ(deep-1)+", b: "+typ(deep-1)+"}", "("+typ(deep-1)+" | "+typ(deep-1)+")", "(fn("+typ(deep-1)+") -> "+typ(deep-1)+")")
	}
	expr = func(deep int) string {
		if deep == 0 {
			return pick("1", `"s"`, "true", "nil", "a", "b", "c", "f", "u.v")
		}
		x, y := expr(deep-1), expr(deep-1)
		return pick("("+x+" + "+y+")", "("+x+" == "+y+")", "(if "+x+" then "+y+" else "+x+")", "("+x+")("+y+")", "("+x+").a", "{a = "+x+", b = "+y+"}", "(fn("+name()+": "+typ(1)+") => "+x+")", "(let a = "+x+" in "+y+")", "("+x+": "+typ(2)+")", "roll T("+x+")", "unroll("+x+")", "-"+x)
	}
	text := `import "l" as u `
	for range 1 + rnd.Intn(5) {
		text += pick("let "+name()+" = "+expr(2), "let "+name()+": "+typ(2)+" = "+expr(2), "fun "+name()+"(a, b: "+typ(1)+") = "+expr(3), "fun "+name()+"(a: "+typ(2)+"): "+typ(1)+" = "+expr(2), "type "+pick("T", "U")+" = "+typ(2)) + " "
	}
	return text
}

// TestWhatFollows: types of summaries may be, names rise, diagnostics are in order; the cost is not above what the bytes allow.
func TestWhatFollows(t *testing.T) {
	l := library(t, `type V = str let v = roll V("a")`)
	rnd := rand.New(rand.NewSource(1))
	for range 3000 {
		text := module(rnd)
		r := check(text, l)
		if r.Sum.Broken {
			t.Fatalf("%s: %v", text, r.Diags)
		}
		for _, list := range [][]api.Export{r.Sum.Values, r.Sum.Types} {
			for i, x := range list {
				if ty.Check(x.T) != api.OK || i > 0 && list[i-1].Name >= x.Name {
					t.Fatalf("%s: %s", text, exports(list))
				}
			}
		}
		for i, d := range r.Diags {
			if i > 0 && (r.Diags[i-1].At > d.At || r.Diags[i-1].At == d.At && r.Diags[i-1].Code >= d.Code) {
				t.Fatalf("%s: %v", text, r.Diags)
			}
		}
		if r.Cost > tally.Bound(len(text)) {
			t.Fatalf("%s: %d", text, r.Cost)
		}
		// What nobody imports makes no difference.
		more := api.Import{Path: "k", There: true, Sum: api.Summary{Path: "l", Types: []api.Export{{Name: "V", T: &api.Type{Kind: api.TyInt}}}}}
		if !alike(check(text, more, l, more), r) {
			t.Fatalf("%s: an import that is none", text)
		}
	}
}

// looser is a written type in some of whose parts any stands.
func looser(rnd *rand.Rand, t *api.TypeEx) *api.TypeEx {
	if t == nil {
		return nil
	}
	if rnd.Intn(4) == 0 {
		return &api.TypeEx{Kind: api.TxAny}
	}
	c := *t
	c.Args, c.Ret = looserAll(rnd, t.Args), looser(rnd, t.Ret)
	return &c
}

func looserAll(rnd *rand.Rand, l []*api.TypeEx) []*api.TypeEx {
	var out []*api.TypeEx
	for _, t := range l {
		out = append(out, looser(rnd, t))
	}
	return out
}

// looserIn is an expression in whose types, of names and behind a colon, any stands in some parts.
func looserIn(rnd *rand.Rand, e *api.Expr) *api.Expr {
	if e == nil {
		return nil
	}
	c := *e
	if e.Kind != api.ExRoll {
		c.T = looser(rnd, e.T)
	}
	c.Types, c.Args = looserAll(rnd, e.Types), nil
	for _, x := range e.Args {
		c.Args = append(c.Args, looserIn(rnd, x))
	}
	c.L, c.R, c.C = looserIn(rnd, e.L), looserIn(rnd, e.R), looserIn(rnd, e.C)
	return &c
}

// TestGradualGuarantee: where nothing is told of a module, nothing is told of it, but for sizes, with any in parts of its types.
func TestGradualGuarantee(t *testing.T) {
	in := library(t, `type V = str let v = roll V("a")`)
	rnd := rand.New(rand.NewSource(2))
	quiet := 0
	for range 15000 {
		text := module(rnd)
		if len(text) > 200 || len(check(text, in).Diags) > 0 {
			continue
		}
		quiet++
		l, err := parse.Parse(text)
		if err != nil {
			t.Fatal(err)
		}
		for _, d := range l {
			if d.Kind != api.DeType {
				d.T, d.Types, d.E = looser(rnd, d.T), looserAll(rnd, d.Types), looserIn(rnd, d.E)
			}
		}
		loose, code := print.Print(l)
		if code != api.OK {
			t.Fatalf("%s is not printed", text)
		}
		for _, d := range check(loose, in).Diags {
			if d.Code != api.DgSize {
				t.Fatalf("%s\n%s: %v", text, loose, d)
			}
		}
	}
	if quiet < 50 {
		t.Errorf("of %d modules alone nothing is told", quiet)
	}
}
