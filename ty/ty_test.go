package ty_test

import (
	"math/rand"
	"slices"
	"strings"
	"testing"

	"lodger/api"
	"lodger/ty"
)

var (
	anyT  = &api.Type{Kind: api.TyAny}
	intT  = &api.Type{Kind: api.TyInt}
	boolT = &api.Type{Kind: api.TyBool}
	strT  = &api.Type{Kind: api.TyStr}
	nilT  = &api.Type{Kind: api.TyNil}
)

func named(s string) *api.Type { return &api.Type{Kind: api.TyName, Name: s} }

func rec(names string, args ...*api.Type) *api.Type {
	return &api.Type{Kind: api.TyRec, Names: strings.Fields(names), Args: args}
}

func fun(ret *api.Type, args ...*api.Type) *api.Type {
	return &api.Type{Kind: api.TyFun, Args: args, Ret: ret}
}

func union(args ...*api.Type) *api.Type { return &api.Type{Kind: api.TyUnion, Args: args} }

// sized is a type of a size: functions, one in the other.
func sized(n int) *api.Type {
	t := intT
	for range n - 1 {
		t = fun(t)
	}
	return t
}

// wide is a record of n ints.
func wide(n int) *api.Type {
	t := &api.Type{Kind: api.TyRec}
	for i := range n {
		t.Names, t.Args = append(t.Names, "f"+string([]byte{byte('a' + i/26), byte('a' + i%26)})), append(t.Args, intT)
	}
	return t
}

// doubled is made of very many types, of which it shares most.
func doubled() *api.Type {
	t := intT
	for range 200 {
		t = rec("a b", t, t)
	}
	return t
}

func TestTexts(t *testing.T) {
	long := strings.Repeat("n", 161)
	for _, c := range []struct {
		t    *api.Type
		text string
		size int
	}{
		{anyT, "any", 1}, {intT, "int", 1}, {boolT, "bool", 1}, {strT, "str", 1}, {nilT, "nil", 1},
		{named("a/b-c_9.N"), "a/b-c_9.N", 1}, {named(long), long, 1}, {named("."), ".", 1}, {named("9"), "9", 1},
		{rec(""), "{}", 1}, {rec("a b", intT, anyT), "{a: int, b: any}", 3}, {rec("A _ a", intT, strT, nilT), "{A: int, _: str, a: nil}", 4},
		{rec("let", intT), "{let: int}", 2}, {rec(long[:24], intT), "{" + long[:24] + ": int}", 2},
		{fun(intT), "fn() -> int", 2}, {fun(intT, strT, rec("")), "fn(str, {}) -> int", 4}, {fun(fun(intT)), "fn() -> fn() -> int", 3},
		{union(intT, strT), "int | str", 3}, {union(fun(intT), nilT), "(fn() -> int) | nil", 4}, {fun(union(fun(intT), nilT)), "fn() -> (fn() -> int) | nil", 5},
		{union(fun(fun(intT)), fun(intT, intT)), "(fn() -> fn() -> int) | (fn(int) -> int)", 7},
		{rec("a", union(intT, nilT)), "{a: int | nil}", 4}, {fun(union(boolT, intT), union(nilT, strT)), "fn(nil | str) -> bool | int", 7},
		{union(intT, named("m.N"), rec("a", anyT)), "int | m.N | {a: any}", 5},
		{sized(60), strings.Repeat("fn() -> ", 59) + "int", 60},
		{&api.Type{Kind: api.TyInt, Args: []*api.Type{}, Names: []string{}}, "int", 1},
	} {
		if got := ty.Text(c.t); got != c.text || ty.Check(c.t) != api.OK || ty.Size(c.t) != c.size {
			t.Errorf("%q: %q, %v, %d", c.text, got, ty.Check(c.t), ty.Size(c.t))
		}
		if !ty.Same(c.t, c.t) || ty.Same(c.t, nil) || ty.Same(nil, c.t) {
			t.Errorf("%q is not itself", c.text)
		}
	}
}

// wrongTypes are types that may not be, though they are not too large.
func wrongTypes() []*api.Type {
	return []*api.Type{
		{}, {Kind: -1}, {Kind: api.LastTy + 1},
		named(""), named(strings.Repeat("n", 162)), named("a b"), named("a:b"), named("ä"), named("a|b"), named("{}"),
		rec("a", nil), rec("a b", intT), rec("a", intT, intT), rec("b a", intT, intT), rec("a a", intT, intT), rec("1", intT), rec("a-b", intT), rec(strings.Repeat("n", 25), intT),
		{Kind: api.TyRec, Names: []string{""}, Args: []*api.Type{intT}}, {Kind: api.TyRec, Names: []string{"a b"}, Args: []*api.Type{intT}},
		fun(nil), fun(nil, intT), fun(intT, nil), union(), union(intT), union(intT, intT), union(strT, intT), union(intT, nil), union(anyT, intT), union(intT, union(nilT, strT)), union(anyT, anyT),
		rec("a", named("")), fun(named("")), fun(intT, named("")), union(intT, fun(named(""))),
		union(rec("a", intT), rec("a", intT)), union(named("int"), intT),
	}
}

func TestCheck(t *testing.T) {
	if ty.Check(nil) != api.ErrNil || ty.Size(nil) != 0 || ty.Text(nil) != "" || !ty.Same(nil, nil) {
		t.Error("none")
	}
	for i, x := range wrongTypes() {
		if err := ty.Check(x); err != api.ErrArg || ty.Text(x) != "" {
			t.Errorf("%d: %v: %v, %q", i, *x, err, ty.Text(x))
		}
	}
	for i, x := range []*api.Type{sized(61), wide(60), doubled(), {Kind: 99, Args: slices.Repeat([]*api.Type{intT}, 60)}, fun(sized(30), sized(30)), {Kind: api.TyInt, Ret: sized(60)}} {
		if ty.Check(x) != api.ErrLong || ty.Size(x) != 61 || ty.Text(x) != "" || ty.Same(x, x) {
			t.Errorf("too large %d: %v, %d", i, ty.Check(x), ty.Size(x))
		}
	}
	if ty.Check(wide(59)) != api.OK {
		t.Error("60 may be")
	}
	if ty.Size(rec("a b", nil, intT)) != 2 {
		t.Error("a part that is nil counts for nothing")
	}
}

// TestFieldsOfKinds: each field that a kind has not, and none that it has, makes it wrong.
func TestFieldsOfKinds(t *testing.T) {
	has := map[int]string{api.TyName: "name", api.TyRec: "names args", api.TyFun: "args ret", api.TyUnion: "args"}
	for kind := 1; kind <= api.LastTy; kind++ {
		for _, field := range []string{"name", "names", "args", "ret"} {
			x := map[int]*api.Type{api.TyName: named("n"), api.TyRec: rec("a", intT), api.TyFun: fun(intT), api.TyUnion: union(intT, strT)}[kind]
			if x == nil {
				x = &api.Type{Kind: kind}
			}
			if strings.Contains(has[kind], field) && !(field == "name" && kind == api.TyRec) {
				continue
			}
			switch field {
			case "name":
				x.Name = "n"
			case "names":
				x.Names = []string{"n"}
			case "args":
				x.Args = []*api.Type{intT}
			case "ret":
				x.Ret = intT
			}
			if ty.Check(x) != api.ErrArg {
				t.Errorf("kind %d with %s: %v", kind, field, ty.Check(x))
			}
		}
	}
}

// TestAllBytes: which bytes a field's name may have, and begin with, and which a named type's.
func TestAllBytes(t *testing.T) {
	const letters = "abcdefghijklmnopqrstuvwxyzABCDEFGHIJKLMNOPQRSTUVWXYZ_"
	for i := range 256 {
		b := string([]byte{byte(i)})
		for _, c := range []struct {
			t    *api.Type
			more string
		}{
			{&api.Type{Kind: api.TyRec, Names: []string{b}, Args: []*api.Type{intT}}, ""},
			{&api.Type{Kind: api.TyRec, Names: []string{"a" + b}, Args: []*api.Type{intT}}, "0123456789"},
			{named(b), "0123456789-/."},
		} {
			if (ty.Check(c.t) == api.OK) != strings.Contains(letters+c.more, b) {
				t.Errorf("%q in %v", b, *c.t)
			}
		}
	}
}

func TestSame(t *testing.T) {
	whole := func() *api.Type {
		return &api.Type{Kind: 42, Name: "n", Names: []string{"a"}, Args: []*api.Type{named("x"), nil}, Ret: strT}
	}
	if !ty.Same(whole(), whole()) {
		t.Error("alike in all fields")
	}
	for i, change := range []func(x *api.Type){
		func(x *api.Type) { x.Kind++ }, func(x *api.Type) { x.Name = "m" }, func(x *api.Type) { x.Names[0] = "b" }, func(x *api.Type) { x.Names = nil },
		func(x *api.Type) { x.Args = x.Args[:1] }, func(x *api.Type) { x.Args[0] = named("y") }, func(x *api.Type) { x.Args[1] = intT }, func(x *api.Type) { x.Args[0] = nil },
		func(x *api.Type) { x.Ret = nil }, func(x *api.Type) { x.Ret = intT },
	} {
		x := whole()
		change(x)
		if ty.Same(x, whole()) || ty.Same(whole(), x) {
			t.Errorf("change %d makes no difference", i)
		}
	}
	if !ty.Same(rec(""), &api.Type{Kind: api.TyRec, Names: []string{}, Args: []*api.Type{}}) {
		t.Error("an empty list")
	}
}

func is(t *testing.T, what string, got *api.Type, err api.Errno, text string, want api.Errno) {
	t.Helper()
	if err != want || ty.Text(got) != text || (got == nil) != (want != api.OK) {
		t.Errorf("%s: %q, %v", what, ty.Text(got), err)
	}
}

func TestRec(t *testing.T) {
	names, args := []string{"b", "a"}, []*api.Type{intT, anyT}
	r, err := ty.Rec(names, args)
	is(t, "b a", r, err, "{a: any, b: int}", api.OK)
	if names[0] != "b" || args[0] != intT {
		t.Error("what was handed in was changed")
	}
	names[0], args[0] = "zz", strT
	is(t, "kept", r, api.OK, "{a: any, b: int}", api.OK)
	r, err = ty.Rec([]string{"a", "b"}, args)
	args[0] = nilT
	is(t, "kept", r, err, "{a: str, b: any}", api.OK)
	r, err = ty.Rec(nil, nil)
	is(t, "none", r, err, "{}", api.OK)
	for _, c := range []struct {
		names string
		args  []*api.Type
		want  api.Errno
	}{
		{"a a", []*api.Type{intT, int2()}, api.ErrArg}, {"a b a", []*api.Type{intT, intT, intT}, api.ErrArg}, {"1", []*api.Type{intT}, api.ErrArg}, {"a", nil, api.ErrArg}, {"", []*api.Type{intT}, api.ErrArg}, {"a", []*api.Type{nil}, api.ErrArg},
		{"a", []*api.Type{named("")}, api.ErrArg}, {"a", []*api.Type{sized(61)}, api.ErrArg}, {"a", []*api.Type{sized(60)}, api.ErrLong}, {"a b", []*api.Type{sized(30), sized(30)}, api.ErrLong}, {"a a", []*api.Type{sized(30), sized(30)}, api.ErrArg},
		{"a", []*api.Type{doubled()}, api.ErrArg}, {"a b", []*api.Type{sized(60), nil}, api.ErrArg},
	} {
		r, err := ty.Rec(strings.Fields(c.names), c.args)
		is(t, c.names, r, err, "", c.want)
	}
	r, err = ty.Rec([]string{"a"}, []*api.Type{sized(59)})
	if err != api.OK || ty.Size(r) != 60 {
		t.Error("60 may be")
	}
}

func int2() *api.Type { return &api.Type{Kind: api.TyInt} }

func TestFun(t *testing.T) {
	args := []*api.Type{intT, strT}
	f, err := ty.Fun(args, nilT)
	args[0] = anyT
	is(t, "two", f, err, "fn(int, str) -> nil", api.OK)
	f, err = ty.Fun(nil, union(fun(intT), nilT))
	is(t, "none", f, err, "fn() -> (fn() -> int) | nil", api.OK)
	for i, c := range []struct {
		args []*api.Type
		ret  *api.Type
		want api.Errno
	}{
		{nil, nil, api.ErrArg}, {[]*api.Type{nil}, intT, api.ErrArg}, {[]*api.Type{named("")}, intT, api.ErrArg}, {nil, named(""), api.ErrArg}, {nil, sized(61), api.ErrArg}, {nil, sized(60), api.ErrLong},
		{[]*api.Type{sized(60)}, nil, api.ErrArg}, {[]*api.Type{sized(30)}, sized(30), api.ErrLong}, {[]*api.Type{doubled()}, intT, api.ErrArg},
	} {
		f, err := ty.Fun(c.args, c.ret)
		is(t, "wrong "+string(rune('0'+i)), f, err, "", c.want)
	}
	f, err = ty.Fun([]*api.Type{sized(30)}, sized(29))
	if err != api.OK || ty.Size(f) != 60 {
		t.Error("60 may be")
	}
}

func TestUnion(t *testing.T) {
	for _, c := range []struct {
		l    []*api.Type
		want string
	}{
		{[]*api.Type{strT, intT, strT}, "int | str"}, {[]*api.Type{intT}, "int"}, {[]*api.Type{intT, anyT}, "any"}, {[]*api.Type{anyT}, "any"},
		{[]*api.Type{fun(intT), nilT}, "(fn() -> int) | nil"}, {[]*api.Type{union(intT, strT), nilT}, "int | nil | str"}, {[]*api.Type{union(intT, strT), union(intT, nilT)}, "int | nil | str"},
		{[]*api.Type{union(intT, strT)}, "int | str"}, {[]*api.Type{union(intT, strT), anyT}, "any"}, {[]*api.Type{rec("a", anyT), rec("a", anyT)}, "{a: any}"},
		{[]*api.Type{nilT, fun(intT), fun(intT, intT), boolT}, "bool | (fn() -> int) | (fn(int) -> int) | nil"}, {[]*api.Type{named("m.B"), named("m.A")}, "m.A | m.B"},
		{[]*api.Type{sized(60), sized(60)}, ty.Text(sized(60))}, {[]*api.Type{anyT, sized(60), sized(59)}, "any"},
	} {
		u, err := ty.Union(c.l)
		is(t, c.want, u, err, c.want, api.OK)
	}
	for i, c := range []struct {
		l    []*api.Type
		want api.Errno
	}{
		{nil, api.ErrArg}, {[]*api.Type{}, api.ErrArg}, {[]*api.Type{nil}, api.ErrArg}, {[]*api.Type{anyT, nil}, api.ErrArg}, {[]*api.Type{intT, named("")}, api.ErrArg}, {[]*api.Type{anyT, union(intT)}, api.ErrArg},
		{[]*api.Type{sized(61)}, api.ErrArg}, {[]*api.Type{anyT, doubled()}, api.ErrArg}, {[]*api.Type{sized(60), sized(59)}, api.ErrLong}, {[]*api.Type{sized(30), sized(31)}, api.ErrLong}, {[]*api.Type{sized(59), strT}, api.ErrLong},
	} {
		u, err := ty.Union(c.l)
		is(t, "wrong "+string(rune('0'+i)), u, err, "", c.want)
	}
	u, err := ty.Union([]*api.Type{sized(58), strT})
	if err != api.OK || ty.Size(u) != 60 {
		t.Error("60 may be")
	}
	in := union(intT, strT)
	l := []*api.Type{in, nilT}
	u, _ = ty.Union(l)
	u.Args[0] = boolT
	if ty.Text(in) != "int | str" || l[0] != in {
		t.Error("what was handed in was changed")
	}
}

// random is a type that may be, of what rnd chooses; nil, where it would be too large.
func random(rnd *rand.Rand, deep int) *api.Type {
	if deep == 0 || rnd.Intn(4) == 0 {
		return []*api.Type{anyT, intT, boolT, strT, nilT, named("m.N"), named("m.M")}[rnd.Intn(7)]
	}
	var l []*api.Type
	for range 1 + rnd.Intn(3) {
		x := random(rnd, deep-1)
		if x == nil {
			return nil
		}
		l = append(l, x)
	}
	var t *api.Type
	switch rnd.Intn(3) {
	case 0:
		t, _ = ty.Rec([]string{"c", "a", "b"}[:len(l)], l)
	case 1:
		t, _ = ty.Fun(l[1:], l[0])
	case 2:
		t, _ = ty.Union(l)
	}
	return t
}

// TestOneForm: what is made may be, and two are the same just if their texts are; the order of a union's parts, and its turns, do not matter.
func TestOneForm(t *testing.T) {
	rnd := rand.New(rand.NewSource(1))
	var all []*api.Type
	for len(all) < 400 {
		if x := random(rnd, 3); x != nil {
			all = append(all, x)
		}
	}
	for _, a := range all {
		if ty.Check(a) != api.OK {
			t.Fatalf("%v may not be", *a)
		}
		for _, b := range all {
			if ty.Same(a, b) != (ty.Text(a) == ty.Text(b)) {
				t.Fatalf("%s and %s", ty.Text(a), ty.Text(b))
			}
		}
	}
	for range 3000 {
		a, b, c := all[rnd.Intn(400)], all[rnd.Intn(400)], all[rnd.Intn(400)]
		whole, err := ty.Union([]*api.Type{a, b, c, b})
		if err != api.OK {
			continue
		}
		ab, _ := ty.Union([]*api.Type{b, a})
		turns, _ := ty.Union([]*api.Type{c, ab})
		if !ty.Same(whole, turns) {
			t.Fatalf("%s, not %s", ty.Text(whole), ty.Text(turns))
		}
	}
}
