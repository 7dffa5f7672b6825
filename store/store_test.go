package store_test

import (
	"fmt"
	"math/rand"
	"slices"
	"strings"
	"testing"

	"lodger/api"
	"lodger/store"
	"lodger/ty"
)

var (
	intT = &api.Type{Kind: api.TyInt}
	strT = &api.Type{Kind: api.TyStr}
	nilT = &api.Type{Kind: api.TyNil}
)

func rec(names string, args ...*api.Type) *api.Type {
	return &api.Type{Kind: api.TyRec, Names: strings.Fields(names), Args: args}
}

func fun(ret *api.Type, args ...*api.Type) *api.Type {
	return &api.Type{Kind: api.TyFun, Args: args, Ret: ret}
}

func named(s string) *api.Type { return &api.Type{Kind: api.TyName, Name: s} }

func intern(t *testing.T, s *store.Store, x *api.Type, want uint64) {
	t.Helper()
	if id, err := s.Intern(x); id != want || err != api.OK {
		t.Errorf("Intern(%s): %d, %v, not %d", ty.Text(x), id, err, want)
	}
}

func release(t *testing.T, s *store.Store, id uint64, want api.Errno) {
	t.Helper()
	if err := s.Release(id); err != want {
		t.Errorf("Release(%d): %v, not %v", id, err, want)
	}
}

func length(t *testing.T, s *store.Store, want int) {
	t.Helper()
	if n := s.Len(); n != want {
		t.Errorf("%d entries, not %d", n, want)
	}
}

func parts(s *store.Store, id uint64) string {
	kind, name, names, args, ret := s.Parts(id)
	return fmt.Sprint(kind, name, names, args, ret)
}

func TestExample(t *testing.T) {
	s := store.New(0)
	intern(t, s, intT, 1)
	intern(t, s, &api.Type{Kind: api.TyInt}, 1)
	length(t, s, 1)
	if s.Pins(1) != 2 {
		t.Errorf("Pins: %d", s.Pins(1))
	}
	intern(t, s, rec("a", intT), 2)
	if got := parts(s, 2); got != "7[a] [1] 0" {
		t.Errorf("Parts: %s", got)
	}
	length(t, s, 2)
	release(t, s, 2, api.OK)
	length(t, s, 1)
	intern(t, s, rec("a", intT), 3)
	release(t, s, 1, api.OK)
	release(t, s, 1, api.OK)
	release(t, s, 1, api.ErrArg)
	length(t, s, 2)
	release(t, s, 3, api.OK)
	length(t, s, 0)
	release(t, s, 3, api.ErrNone)
	if x, is := s.Type(1); x != nil || is {
		t.Error("the type of none")
	}
}

func TestParts(t *testing.T) {
	s := store.New(100)
	intern(t, s, fun(nilT, intT, strT, intT), 4) // int 1, str 2, nil 3
	intern(t, s, named("a.N"), 5)
	intern(t, s, &api.Type{Kind: api.TyUnion, Args: []*api.Type{intT, nilT}}, 6)
	intern(t, s, rec("a b", named("a.N"), fun(nilT, intT, strT, intT)), 7)
	intern(t, s, rec(""), 8)
	intern(t, s, fun(intT), 9)
	for id, want := range []string{"0[] [] 0", "2[] [] 0", "4[] [] 0", "5[] [] 0", "8[] [1 2 1] 3", "6a.N[] [] 0", "9[] [1 3] 0", "7[a b] [5 4] 0", "7[] [] 0", "8[] [] 1", "0[] [] 0"} {
		got := parts(s, uint64(id))
		if strings.ReplaceAll(got, " ", "") != strings.ReplaceAll(want, " ", "") {
			t.Errorf("Parts(%d): %s", id, got)
		}
	}
	if x, is := s.Type(7); !is || ty.Text(x) != "{a: a.N, b: fn(int, str, int) -> nil}" {
		t.Error(ty.Text(x))
	}
}

// TestUnlikeTypes: what differs in one thing alone has an entry of its own.
func TestUnlikeTypes(t *testing.T) {
	s := store.New(100)
	ids := map[uint64]bool{}
	l := []*api.Type{intT, rec("a", intT), rec("b", intT), rec("a", strT), rec("a b", intT, strT), rec("ab", intT), fun(intT), fun(intT, intT), fun(strT, intT), fun(intT, strT), fun(intT, intT, strT), fun(strT, intT, intT),
		named("a.N"), named("a.M"), named("aN"), rec(""), {Kind: api.TyUnion, Args: []*api.Type{intT, strT}}, rec("a", rec("a", intT)), nilT}
	for _, x := range l {
		id, err := s.Intern(x)
		if err != api.OK || ids[id] {
			t.Errorf("%s: %d, %v", ty.Text(x), id, err)
		}
		ids[id] = true
		if y, is := s.Type(id); !is || !ty.Same(x, y) {
			t.Errorf("%s came back as %s", ty.Text(x), ty.Text(y))
		}
	}
}

func TestErrors(t *testing.T) {
	s := store.New(10)
	large := intT
	for range 60 {
		large = fun(large)
	}
	for _, c := range []struct {
		t    *api.Type
		want api.Errno
	}{{nil, api.ErrNil}, {&api.Type{}, api.ErrArg}, {rec("a", nil), api.ErrArg}, {large, api.ErrLong}, {fun(named("")), api.ErrArg}} {
		if id, err := s.Intern(c.t); id != 0 || err != c.want {
			t.Errorf("Intern: %d, %v, not %v", id, err, c.want)
		}
	}
	length(t, s, 0)
	release(t, s, 0, api.ErrNone)
	release(t, s, 1, api.ErrNone)
	intern(t, s, fun(intT), 2)
	release(t, s, 1, api.ErrArg)
	release(t, s, 3, api.ErrNone)
	if s.Pins(1) != 0 || s.Pins(2) != 1 || s.Pins(9) != 0 {
		t.Error("Pins")
	}
}

func TestNoStore(t *testing.T) {
	var none *store.Store
	if id, err := none.Intern(intT); id != 0 || err != api.ErrNil {
		t.Error("Intern")
	}
	release(t, none, 1, api.ErrNil)
	length(t, none, 0)
	if x, is := none.Type(1); x != nil || is || none.Pins(1) != 0 || parts(none, 1) != parts(store.New(0), 1) {
		t.Error("a store that is none")
	}
}

// TestRoom: who goes is neither pinned nor held, and was used least lately.
func TestRoom(t *testing.T) {
	s := store.New(3)
	for i, x := range []*api.Type{intT, strT, nilT} {
		intern(t, s, x, uint64(i+1))
		release(t, s, uint64(i+1), api.OK)
	}
	intern(t, s, intT, 1) // used again, so str is the one that goes
	release(t, s, 1, api.OK)
	intern(t, s, named("a.N"), 4)
	if _, is := s.Type(2); is {
		t.Error("str is still there")
	}
	length(t, s, 3)
	intern(t, s, rec("a", nilT), 5) // int goes: nil is held
	if _, is := s.Type(1); is {
		t.Error("int is still there")
	}
	length(t, s, 3)
	intern(t, s, strT, 6) // nobody can go
	length(t, s, 4)
	release(t, s, 5, api.OK) // the record goes; nil, which it held, may stay
	length(t, s, 3)
	if _, is := s.Type(3); !is {
		t.Error("nil is gone")
	}
	release(t, s, 6, api.OK)
	release(t, s, 4, api.OK)
	length(t, s, 3)
	// nil was used least lately: when it was laid as a part of the record, behind a.N, but ahead of str.
	intern(t, s, intT, 7)
	if _, is := s.Type(4); is {
		t.Error("a.N is still there")
	}
}

// TestPartsAreUsedAheadOfWholes, also where there is an entry of the whole.
func TestPartsAreUsed(t *testing.T) {
	s := store.New(2)
	intern(t, s, fun(intT), 2)
	release(t, s, 2, api.OK)
	intern(t, s, strT, 3) // the function goes, then int is no more held, but there is room
	length(t, s, 2)
	if _, is := s.Type(1); !is {
		t.Error("int is gone")
	}
	s = store.New(-5)
	intern(t, s, fun(intT), 2)
	length(t, s, 2)
	release(t, s, 2, api.OK)
	length(t, s, 0)
	intern(t, s, intT, 3)
}

func TestAnswersAreNew(t *testing.T) {
	s := store.New(10)
	x := rec("a", intT)
	intern(t, s, x, 2)
	x.Names[0], x.Args[0] = "b", strT
	_, _, names, args, _ := s.Parts(2)
	names[0], args[0] = "c", 77
	y, _ := s.Type(2)
	y.Names[0] = "d"
	if y, _ := s.Type(2); ty.Text(y) != "{a: int}" || strings.ReplaceAll(parts(s, 2), " ", "") != "7[a][1]0" {
		t.Error(ty.Text(y), parts(s, 2))
	}
}

// plainEntry is an entry of a store that is built as plainly as can be.
type plainEntry struct {
	id    uint64
	text  string
	parts []uint64
	pins  int
	used  int
}

type plainStore struct {
	capacity, uses int
	given          uint64
	l              []*plainEntry
}

func (s *plainStore) lay(t *api.Type) uint64 {
	var ids []uint64
	for _, x := range t.Args {
		ids = append(ids, s.lay(x))
	}
	if t.Ret != nil {
		ids = append(ids, s.lay(t.Ret))
	}
	i := slices.IndexFunc(s.l, func(e *plainEntry) bool { return e.text == ty.Text(t) })
	if i < 0 {
		s.given++
		i = len(s.l)
		s.l = append(s.l, &plainEntry{id: s.given, text: ty.Text(t), parts: ids})
	}
	s.uses++
	s.l[i].used = s.uses
	return s.l[i].id
}

func (s *plainStore) room() {
	for len(s.l) > s.capacity {
		gone := -1
		for i, e := range s.l {
			held := slices.ContainsFunc(s.l, func(o *plainEntry) bool { return slices.Contains(o.parts, e.id) })
			if e.pins == 0 && !held && (gone < 0 || e.used < s.l[gone].used) {
				gone = i
			}
		}
		if gone < 0 {
			return
		}
		s.l = slices.Delete(s.l, gone, gone+1)
	}
}

func (s *plainStore) find(id uint64) *plainEntry {
	for _, e := range s.l {
		if e.id == id {
			return e
		}
	}
	return nil
}

// TestAgainstPlainStore does the same to both.
func TestAgainstPlainStore(t *testing.T) {
	types := []*api.Type{intT, strT, nilT, named("a.N"), rec(""), rec("a", intT), rec("a b", intT, strT), rec("a", rec("a", intT)), fun(intT), fun(fun(intT)), fun(nilT, rec("a", intT), intT), {Kind: api.TyUnion, Args: []*api.Type{intT, strT}}}
	for seed := range 12 {
		rnd := rand.New(rand.NewSource(int64(seed)))
		s, p := store.New(seed), &plainStore{capacity: seed}
		for range 1500 {
			if rnd.Intn(2) == 0 {
				x := types[rnd.Intn(len(types))]
				want := p.lay(x)
				p.find(want).pins++
				p.room()
				intern(t, s, x, want)
			} else {
				id := uint64(rnd.Intn(int(p.given) + 2))
				if len(p.l) > 0 && rnd.Intn(8) > 0 {
					id = p.l[rnd.Intn(len(p.l))].id
				}
				want := api.OK
				if e := p.find(id); e == nil {
					want = api.ErrNone
				} else if e.pins == 0 {
					want = api.ErrArg
				} else {
					e.pins--
					p.room()
				}
				release(t, s, id, want)
			}
			length(t, s, len(p.l))
			for _, e := range p.l {
				if x, is := s.Type(e.id); !is || ty.Text(x) != e.text || s.Pins(e.id) != e.pins {
					t.Fatalf("%d is no %s", e.id, e.text)
				}
			}
			if t.Failed() {
				t.FailNow()
			}
		}
	}
}
