package sums_test

import (
	"encoding/hex"
	"math/rand"
	"strings"
	"testing"

	"lodger/api"
	"lodger/sums"
	"lodger/ty"
)

var (
	intT = &api.Type{Kind: api.TyInt}
	strT = &api.Type{Kind: api.TyStr}
)

func named(s string) *api.Type { return &api.Type{Kind: api.TyName, Name: s} }

func rec(names string, args ...*api.Type) *api.Type {
	return &api.Type{Kind: api.TyRec, Names: strings.Fields(names), Args: args}
}

func fun(ret *api.Type, args ...*api.Type) *api.Type {
	return &api.Type{Kind: api.TyFun, Args: args, Ret: ret}
}

func deep(n int) *api.Type {
	t := intT
	for range n - 1 {
		t = fun(t)
	}
	return t
}

func unhex(t *testing.T, s string) string {
	t.Helper()
	b, err := hex.DecodeString(strings.ReplaceAll(s, " ", ""))
	if err != nil {
		t.Fatal(err)
	}
	return string(b)
}

var name24 = strings.Repeat("n", 24)

func TestEncode(t *testing.T) {
	for _, c := range []struct {
		s    api.Summary
		want string
	}{
		{api.Summary{Path: "m", Values: []api.Export{{Name: "a", T: intT}}}, "01 6d 00 01 01 61 02 00"},
		{api.Summary{Path: "m", Broken: true}, "01 6d 01"},
		{api.Summary{}, "00 00 00 00"},
		{api.Summary{Broken: true}, "00 01"},
		{api.Summary{Path: "m", Types: []api.Export{{Name: "A", T: named("m.B")}, {Name: "B", T: rec("a b", strT, rec(""))}}}, "01 6d 00 00 02 01 41 06 03 6d 2e 42 01 42 07 02 01 61 04 01 62 07 00"},
		{api.Summary{Values: []api.Export{{Name: "f", T: fun(intT, strT, intT)}, {Name: "g", T: fun(intT)}, {Name: "u", T: &api.Type{Kind: api.TyUnion, Args: []*api.Type{intT, strT}}}}}, "00 00 03 01 66 08 02 04 02 02 01 67 08 00 02 01 75 09 02 02 04 00"},
		{api.Summary{Values: []api.Export{{Name: " any bytes\xff", T: &api.Type{Kind: api.TyAny}}}}, "00 00 01 0b 20616e79206279746573ff 01 00"},
	} {
		got := sums.Encode(c.s)
		if got != unhex(t, c.want) {
			t.Errorf("%v: %x", c.s, got)
		}
		back, err := sums.Decode(got)
		if err != api.OK || !sums.Same(back, c.s) || back.Broken != c.s.Broken {
			t.Errorf("%x came back as %v, %v", got, back, err)
		}
	}
}

// mayNot are summaries that may not be.
func mayNot() []api.Summary {
	one := []api.Export{{Name: "a", T: intT}}
	l := []api.Summary{{Broken: true, Values: one}, {Broken: true, Types: one}}
	for _, x := range [][]api.Export{
		{{Name: "", T: intT}}, {{Name: name24 + "n", T: intT}}, {{Name: "b", T: intT}, {Name: "a", T: intT}}, {{Name: "a", T: intT}, {Name: "a", T: intT}}, {{Name: "a"}}, {{Name: "a", T: &api.Type{}}}, {{Name: "a", T: deep(61)}}, {{Name: "a", T: rec("a", nil)}}, {{Name: "a", T: intT}, {Name: "", T: intT}},
	} {
		l = append(l, api.Summary{Path: "m", Values: x}, api.Summary{Path: "m", Types: x})
	}
	return l
}

func TestSummariesThatMayNotBe(t *testing.T) {
	for i, s := range mayNot() {
		if got := sums.Encode(s); got != "" {
			t.Errorf("%d: %x", i, got)
		}
		if got := sums.Key("m", "", []api.Import{{Path: "a"}, {Path: "b", There: true, Sum: s}}); got != "" {
			t.Errorf("%d: a key %x", i, got)
		}
		if got := sums.Key("m", "", []api.Import{{Path: "b", Sum: s}}); got != unhex(t, "01 6d 00 01 01 62 00") {
			t.Errorf("%d: a key %x, where it counts for nothing", i, got)
		}
	}
	for _, s := range []api.Summary{{Path: strings.Repeat("p", 300)}, {Path: "\xff "}, {Values: []api.Export{{Name: name24, T: deep(60)}}}} {
		got, err := sums.Decode(sums.Encode(s))
		if err != api.OK || !sums.Same(got, s) {
			t.Errorf("%v does not come back", s)
		}
	}
}

func TestWrongBytes(t *testing.T) {
	for _, s := range []string{
		"", "00", "01", "01 6d", "01 6d 02", "01 6d 01 00", "01 6d 00 01 01 61 00 00", "01 6d 00", "01 6d 00 00", "01 6d 00 00 00 00", "02 6d",
		"00 00 01 01 61 02", "00 00 01 01 61", "00 00 01", "00 00 02 01 61 02 00", "00 00 01 00 02 00", "00 00 02 01 62 02 01 61 02 00", "00 00 02 01 61 02 01 61 02 00", "00 00 01 01 61 0a 00", "00 00 01 01 61 fa 01 00 02 00", "00 00 01 01 61 ff ff ff ff ff ff ff ff ff 00",
		"00 00 01 01 61 06 00 00", "00 00 01 01 61 06 01 20 00", "00 00 01 01 61 07 02 01 62 02 01 61 02 00", "00 00 01 01 61 07 01 01 31 02 00", "00 00 01 01 61 09 01 02 00", "00 00 01 01 61 09 02 04 02 00", "00 00 01 01 61 09 02 01 02 00", "00 00 01 01 61 08 00 00", "00 00 01 01 61 09 00 00",
		"00 00 ff ff ff ff ff ff ff ff ff", "00 00 01 01 61 08 ff ff ff ff ff ff ff ff ff 02 02 02", "00 00 00 01 19 " + strings.Repeat("61", 25) + " 02", "f1 00 00 00 00", "00 f1 00 00 00", "00 01 00",
	} {
		if got, err := sums.Decode(unhex(t, s)); err != api.ErrForm || got.Path != "" || got.Broken || len(got.Values)+len(got.Types) > 0 {
			t.Errorf("%s: %v, %v", s, got, err)
		}
	}
	// Very deep, and very wide.
	for _, s := range []string{strings.Repeat("\x08\x00", 1<<20), strings.Repeat("\x09\x02", 1<<20), "\x08\xfa\x01\x08\xf0" + strings.Repeat("\x02", 70000)} {
		if _, err := sums.Decode("\x00\x00\x01\x01a" + s); err != api.ErrForm {
			t.Error("what is too large was taken")
		}
	}
	sixty := "\x00\x00\x01\x01a" + strings.Repeat("\x08\x00", 59) + "\x02\x00"
	if s, err := sums.Decode(sixty); err != api.OK || !ty.Same(s.Values[0].T, deep(60)) {
		t.Error("60 may be")
	}
	if _, err := sums.Decode("\x00\x00\x01\x01a" + strings.Repeat("\x08\x00", 60) + "\x02\x00"); err != api.ErrForm {
		t.Error("61 may not be")
	}
}

func TestSame(t *testing.T) {
	whole := func() api.Summary {
		return api.Summary{Path: "m", Values: []api.Export{{Name: "a", T: rec("x", intT)}, {Name: "a"}}, Types: []api.Export{{Name: "b", T: strT}}}
	}
	if !sums.Same(whole(), whole()) || !sums.Same(api.Summary{}, api.Summary{Values: []api.Export{}}) {
		t.Error("alike")
	}
	for i, change := range []func(s *api.Summary){
		func(s *api.Summary) { s.Path = "n" }, func(s *api.Summary) { s.Broken = true }, func(s *api.Summary) { s.Values = s.Values[:1] }, func(s *api.Summary) { s.Values[0].Name = "c" },
		func(s *api.Summary) { s.Values[0].T = rec("y", intT) }, func(s *api.Summary) { s.Values[1].T = intT }, func(s *api.Summary) { s.Types[0].T = intT }, func(s *api.Summary) { s.Types[0].Name = "" }, func(s *api.Summary) { s.Types = nil }, func(s *api.Summary) { s.Types[0].T = deep(61) },
	} {
		s := whole()
		change(&s)
		if sums.Same(s, whole()) || sums.Same(whole(), s) {
			t.Errorf("change %d makes no difference", i)
		}
	}
	large := api.Summary{Values: []api.Export{{Name: "a", T: deep(61)}}}
	if sums.Same(large, large) {
		t.Error("what is too large is not the same")
	}
}

func TestKey(t *testing.T) {
	sum := api.Summary{Path: "a", Values: []api.Export{{Name: "v", T: intT}}}
	for _, c := range []struct {
		path, text string
		imports    []api.Import
		want       string
	}{
		{"m", "", []api.Import{{Path: "a"}}, "01 6d 00 01 01 61 00"},
		{"", "", nil, "00 00 00"},
		{"m", "xy", []api.Import{{Path: "a", There: true, Sum: sum}, {Path: "b"}}, "01 6d 02 78 79 02 01 61 01 01 61 00 01 01 76 02 00 01 62 00"},
		{"m", "", []api.Import{{Path: "a", There: true, Sum: api.Summary{Path: "q", Broken: true}}}, "01 6d 00 01 01 61 01 01 71 01"},
	} {
		if got := sums.Key(c.path, c.text, c.imports); got != unhex(t, c.want) {
			t.Errorf("%s, %s: %x", c.path, c.text, got)
		}
	}
}

// TestKeysTellApart: two keys are alike just if path, text and imports are, in their order.
func TestKeysTellApart(t *testing.T) {
	a := api.Import{Path: "a", There: true, Sum: api.Summary{Path: "a", Values: []api.Export{{Name: "v", T: intT}}}}
	b := api.Import{Path: "a", There: true, Sum: api.Summary{Path: "a", Types: []api.Export{{Name: "v", T: intT}}}}
	c := api.Import{Path: "a", There: true, Sum: api.Summary{Path: "a", Values: []api.Export{{Name: "v", T: strT}}}}
	d := api.Import{Path: "b", There: true, Sum: a.Sum}
	e, f, g := api.Import{Path: "a"}, api.Import{Path: "a", There: true, Sum: api.Summary{Path: "a"}}, api.Import{Path: "a", There: true, Sum: api.Summary{Path: "a", Broken: true}}
	seen := map[string]bool{}
	n := 0
	for _, path := range []string{"", "m", "mm"} {
		for _, text := range []string{"", "m", "x\x00"} {
			for _, l := range [][]api.Import{nil, {a}, {b}, {c}, {d}, {e}, {f}, {g}, {a, e}, {e, a}, {a, a}, {e, e}} {
				seen[sums.Key(path, text, l)] = true
				n++
			}
		}
	}
	if len(seen) != n {
		t.Errorf("%d keys of %d", len(seen), n)
	}
	if sums.Key("m", "t", []api.Import{e}) != sums.Key("m", "t", []api.Import{{Path: "a", Sum: a.Sum}}) {
		t.Error("the summary of one that is not there")
	}
}

func random(rnd *rand.Rand, deep int) *api.Type {
	if deep == 0 || rnd.Intn(4) == 0 {
		return []*api.Type{{Kind: api.TyAny}, intT, strT, {Kind: api.TyNil}, named("m.N")}[rnd.Intn(5)]
	}
	l := []*api.Type{random(rnd, deep-1), random(rnd, deep-1)}
	var t *api.Type
	switch rnd.Intn(3) {
	case 0:
		t, _ = ty.Rec([]string{"c", "a"}, l)
	case 1:
		t, _ = ty.Fun(l[1:], l[0])
	case 2:
		t, _ = ty.Union(l)
	}
	if t == nil {
		return intT
	}
	return t
}

// TestThereAndBack: a summary comes back from its bytes; bytes that are taken are laid again.
func TestThereAndBack(t *testing.T) {
	rnd := rand.New(rand.NewSource(1))
	taken := 0
	for range 4000 {
		s := api.Summary{Path: "a/b"}
		for _, n := range []string{"a", "b", "c"} {
			if rnd.Intn(2) == 0 {
				s.Values = append(s.Values, api.Export{Name: n, T: random(rnd, 4)})
			}
			if rnd.Intn(2) == 0 {
				s.Types = append(s.Types, api.Export{Name: n, T: random(rnd, 4)})
			}
		}
		text := sums.Encode(s)
		back, err := sums.Decode(text)
		if err != api.OK || !sums.Same(back, s) {
			t.Fatalf("%x: %v", text, err)
		}
		b := []byte(text)
		for range 4 {
			b[rnd.Intn(len(b))] = byte(rnd.Intn(12))
			if s, err := sums.Decode(string(b)); err == api.OK {
				taken++
				if sums.Encode(s) != string(b) {
					t.Fatalf("%x is laid as %x", b, sums.Encode(s))
				}
			}
		}
	}
	if taken < 100 {
		t.Errorf("only %d were taken", taken)
	}
}
