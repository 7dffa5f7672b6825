package sub_test

import (
	"math/rand"
	"slices"
	"strings"
	"testing"

	"lodger/api"
	"lodger/sub"
	"lodger/ty"
)

var (
	anyT  = &api.Type{Kind: api.TyAny}
	intT  = &api.Type{Kind: api.TyInt}
	boolT = &api.Type{Kind: api.TyBool}
	strT  = &api.Type{Kind: api.TyStr}
	nilT  = &api.Type{Kind: api.TyNil}
)

func named(s string) *api.Type { return &api.Type{Kind: api.TyName, Name: s} }

func rec(names string, args ...*api.Type) *api.Type {
	return &api.Type{Kind: api.TyRec, Names: strings.Fields(names), Args: args}
}

func fun(ret *api.Type, args ...*api.Type) *api.Type {
	return &api.Type{Kind: api.TyFun, Args: args, Ret: ret}
}

func union(args ...*api.Type) *api.Type { return &api.Type{Kind: api.TyUnion, Args: args} }

func TestSub(t *testing.T) {
	for _, c := range []struct {
		a, b  *api.Type
		is    bool
		pairs uint64
	}{
		{intT, intT, true, 1}, {intT, strT, false, 1}, {anyT, rec("x", intT), true, 1}, {fun(intT, intT), anyT, true, 1}, {anyT, anyT, true, 1}, {nilT, nilT, true, 1}, {boolT, nilT, false, 1},
		{intT, union(boolT, intT), true, 3}, {union(boolT, intT), intT, false, 2}, {boolT, union(boolT, intT), true, 2}, {strT, union(boolT, intT), false, 3},
		{rec("x y", intT, strT), rec("y", strT), true, 2}, {rec("y", strT), rec("x y", intT, strT), false, 1}, {rec("", nil...), rec(""), true, 1}, {rec("x", intT), rec(""), true, 1}, {rec(""), rec("x", anyT), false, 1},
		{rec("a b", intT, intT), rec("a b", strT, intT), false, 2}, {rec("a b", intT, intT), rec("a b", intT, strT), false, 3}, {rec("a c", intT, strT), rec("a b c", intT, intT, intT), false, 2},
		{fun(intT, union(intT, strT)), fun(union(intT, strT), intT), true, 5},
		{named("a.N"), named("a.N"), true, 1}, {named("a.N"), named("b.N"), false, 1}, {named("a.N"), rec(""), false, 1}, {named("a.N"), intT, false, 1},
		{fun(intT), fun(intT, intT), false, 1}, {fun(intT, intT), fun(intT), false, 1}, {fun(intT, intT), fun(strT, intT), false, 3}, {fun(intT, intT), fun(intT, strT), false, 2}, {fun(intT), rec(""), false, 1},
		{fun(intT, intT, strT), fun(intT, intT, nilT), false, 3}, {fun(rec("a b", intT, intT), rec("a", intT)), fun(rec("a", intT), rec("a b", intT, intT)), true, 5},
		{union(intT, strT), union(intT, nilT, strT), true, 1 + 2 + 4}, {union(intT, strT), union(intT, nilT), false, 1 + 2 + 3}, {union(intT, strT), anyT, true, 1}, {anyT, union(intT, strT), true, 1},
		{rec("a", anyT), rec("a", intT), true, 2}, {rec("a", union(intT, strT)), rec("a", union(intT, strT)), true, 2 + 2 + 3},
	} {
		if is, pairs := sub.Sub(c.a, c.b); is != c.is || pairs != c.pairs {
			t.Errorf("%s, %s: %v %d, not %v %d", ty.Text(c.a), ty.Text(c.b), is, pairs, c.is, c.pairs)
		}
	}
}

func TestMeet(t *testing.T) {
	for _, c := range []struct {
		a, b  *api.Type
		is    bool
		pairs uint64
	}{
		{rec("x", intT), rec(""), true, 1}, {rec(""), rec("x", intT), true, 2}, {intT, strT, false, 2}, {union(boolT, intT), intT, true, 2 + 3}, {intT, union(boolT, intT), true, 3}, {anyT, intT, true, 1},
		{union(boolT, intT), union(intT, nilT), false, 4 + 7},
	} {
		if is, pairs := sub.Meet(c.a, c.b); is != c.is || pairs != c.pairs {
			t.Errorf("%s, %s: %v %d, not %v %d", ty.Text(c.a), ty.Text(c.b), is, pairs, c.is, c.pairs)
		}
	}
}

func TestTypesThatMayNotBe(t *testing.T) {
	shared := intT
	for range 100 {
		shared = rec("a b", shared, shared)
	}
	for i, x := range []*api.Type{nil, {}, union(intT), rec("a", nil), named(""), shared, fun(nil)} {
		for _, l := range [][2]*api.Type{{x, anyT}, {anyT, x}, {x, x}, {x, intT}} {
			if is, pairs := sub.Sub(l[0], l[1]); is || pairs != 0 {
				t.Errorf("Sub of %d: %v %d", i, is, pairs)
			}
			if is, pairs := sub.Meet(l[0], l[1]); is || pairs != 0 {
				t.Errorf("Meet of %d: %v %d", i, is, pairs)
			}
		}
	}
}

func random(rnd *rand.Rand, deep int, plain []*api.Type) *api.Type {
	if deep == 0 || rnd.Intn(4) == 0 {
		return plain[rnd.Intn(len(plain))]
	}
	var l []*api.Type
	for range 1 + rnd.Intn(3) {
		l = append(l, random(rnd, deep-1, plain))
	}
	var t *api.Type
	switch rnd.Intn(3) {
	case 0:
		t, _ = ty.Rec([]string{"a", "b", "c"}[:len(l)], l)
	case 1:
		t, _ = ty.Fun(l[1:], l[0])
	case 2:
		t, _ = ty.Union(l)
	}
	if t == nil {
		return plain[0]
	}
	return t
}

// TestOrder: what follows of the rules.
func TestOrder(t *testing.T) {
	rnd := rand.New(rand.NewSource(1))
	plain := []*api.Type{intT, boolT, strT, named("m.N")}
	withAny := append(slices.Clone(plain), anyT)
	yes := 0
	for range 8000 {
		a, b := random(rnd, 3, withAny), random(rnd, 3, withAny)
		if is, pairs := sub.Sub(a, b); pairs < 1 || pairs > uint64(ty.Size(a)*ty.Size(b)) {
			t.Fatalf("%s, %s: %v %d", ty.Text(a), ty.Text(b), is, pairs)
		}
		for _, wanted := range []*api.Type{a, anyT} {
			if is, _ := sub.Sub(a, wanted); !is {
				t.Fatalf("%s is no %s", ty.Text(a), ty.Text(wanted))
			}
		}
		if is, _ := sub.Sub(anyT, a); !is {
			t.Fatalf("any is no %s", ty.Text(a))
		}
		if u, err := ty.Union([]*api.Type{a, b}); err == api.OK {
			if is, _ := sub.Sub(a, u); !is {
				t.Fatalf("%s is no %s", ty.Text(a), ty.Text(u))
			}
		}
		few := plain[:1+rnd.Intn(2)]
		x, y, z := random(rnd, 2, few), random(rnd, 2, few), random(rnd, 2, few)
		xy, _ := sub.Sub(x, y)
		yz, _ := sub.Sub(y, z)
		if xy && yz {
			yes++
			if xz, _ := sub.Sub(x, z); !xz {
				t.Fatalf("%s, %s, %s", ty.Text(x), ty.Text(y), ty.Text(z))
			}
		}
	}
	if yes < 100 {
		t.Errorf("only %d chains", yes)
	}
}
