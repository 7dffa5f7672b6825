package memo_test

import (
	"math/rand"
	"slices"
	"strings"
	"testing"

	"lodger/api"
	"lodger/memo"
	"lodger/store"
	"lodger/sub"
	"lodger/ty"
)

var (
	anyT = &api.Type{Kind: api.TyAny}
	intT = &api.Type{Kind: api.TyInt}
	strT = &api.Type{Kind: api.TyStr}
	both = &api.Type{Kind: api.TyUnion, Args: []*api.Type{intT, strT}}
)

func rec(names string, args ...*api.Type) *api.Type {
	return &api.Type{Kind: api.TyRec, Names: strings.Fields(names), Args: args}
}

func asked(t *testing.T, m *memo.Memo, a, b *api.Type, is bool, cost uint64) {
	t.Helper()
	if x, n := m.Sub(a, b); x != is || n != cost {
		t.Errorf("Sub(%s, %s): %v %d, not %v %d", ty.Text(a), ty.Text(b), x, n, is, cost)
	}
}

func lengths(t *testing.T, m *memo.Memo, s *store.Store, pairs, entries int) {
	t.Helper()
	if m.Len() != pairs || s.Len() != entries {
		t.Errorf("%d pairs, %d entries, not %d, %d", m.Len(), s.Len(), pairs, entries)
	}
}

func pins(t *testing.T, s *store.Store, want ...int) {
	t.Helper()
	for i, n := range want {
		if got := s.Pins(uint64(i + 1)); got != n {
			t.Errorf("%d is pinned %d times, not %d", i+1, got, n)
		}
	}
}

func TestExample(t *testing.T) {
	s := store.New(0)
	m := memo.New(s, 1)
	boolInt := &api.Type{Kind: api.TyUnion, Args: []*api.Type{{Kind: api.TyBool}, intT}}
	for range 3 {
		asked(t, m, intT, boolInt, true, 3)
		lengths(t, m, s, 1, 3)
		pins(t, s, 1, 0, 1)
	}
	asked(t, m, strT, intT, false, 1)
	lengths(t, m, s, 1, 2)
	pins(t, s, 1, 0, 0, 1)
	asked(t, m, nil, intT, false, 0)
	asked(t, m, intT, &api.Type{}, false, 0)
	lengths(t, m, s, 1, 2)
	s = store.New(0)
	m = memo.New(s, 0)
	asked(t, m, intT, intT, true, 1)
	lengths(t, m, s, 0, 0)
}

// TestTwicePinned: one that is both is pinned twice.
func TestTwicePinned(t *testing.T) {
	s := store.New(0)
	m := memo.New(s, 2)
	asked(t, m, intT, intT, true, 1)
	pins(t, s, 2)
	asked(t, m, intT, intT, true, 1)
	pins(t, s, 2)
	asked(t, m, intT, strT, false, 1)
	pins(t, s, 3, 1)
	asked(t, m, strT, intT, false, 1) // int and int are forgotten
	pins(t, s, 2, 2)
	lengths(t, m, s, 2, 2)
}

// TestUsedLately: what is asked again is not the one that is forgotten; both orders of two are two pairs.
func TestUsedLately(t *testing.T) {
	s := store.New(0)
	m := memo.New(s, 2)
	asked(t, m, intT, both, true, 2)
	asked(t, m, both, intT, false, 3)
	asked(t, m, intT, both, true, 2)
	asked(t, m, strT, strT, true, 1)
	pins(t, s, 1, 2, 1) // both and int are gone
	asked(t, m, both, intT, false, 3)
	pins(t, s, 1, 2, 1) // int and both are
	lengths(t, m, s, 2, 3)
}

func TestNoMemo(t *testing.T) {
	if memo.New(nil, 5) != nil {
		t.Error("a memo without a store")
	}
	var none *memo.Memo
	asked(t, none, intT, intT, false, 0)
	if none.Len() != 0 {
		t.Error("Len")
	}
	s := store.New(0)
	m := memo.New(s, -7)
	asked(t, m, intT, anyT, true, 1)
	lengths(t, m, s, 0, 0)
}

func TestTypesThatMayNotBe(t *testing.T) {
	s := store.New(50)
	m := memo.New(s, 5)
	large := intT
	for range 100 {
		large = rec("a b", large, large)
	}
	for _, x := range []*api.Type{nil, {}, rec("a", nil), large} {
		asked(t, m, x, anyT, false, 0)
		asked(t, m, anyT, x, false, 0)
		asked(t, m, x, x, false, 0)
	}
	lengths(t, m, s, 0, 0)
}

// TestWhateverWasAsked: the answers are those of sub.Sub, whatever the capacities; nothing is pinned but for remembered pairs, and these are those that were asked last.
func TestWhateverWasAsked(t *testing.T) {
	types := []*api.Type{anyT, intT, strT, both, rec(""), rec("a", intT), rec("a", both), rec("a b", intT, strT), {Kind: api.TyFun, Ret: both}, {Kind: api.TyFun, Args: []*api.Type{both}, Ret: intT}, {Kind: api.TyName, Name: "m.N"}}
	for capacity := range 9 {
		for _, room := range []int{0, 3, 100} {
			rnd := rand.New(rand.NewSource(int64(capacity)))
			s := store.New(room)
			m := memo.New(s, capacity)
			var last [][2]int // the pairs that were asked, each once, the last one ahead
			for range 600 {
				i, j := rnd.Intn(len(types)), rnd.Intn(len(types))
				is, cost := sub.Sub(types[i], types[j])
				asked(t, m, types[i], types[j], is, cost)
				p := [2]int{i, j}
				last = append([][2]int{p}, slices.DeleteFunc(last, func(x [2]int) bool { return x == p })...)
				last = last[:min(len(last), capacity)]
				if m.Len() != len(last) {
					t.Fatalf("%d pairs are remembered, not %d", m.Len(), len(last))
				}
				want := map[string]int{}
				for _, p := range last {
					want[ty.Text(types[p[0]])]++
					want[ty.Text(types[p[1]])]++
				}
				n := 0
				for id := uint64(1); id < 3000 && n < s.Len(); id++ {
					x, is := s.Type(id)
					if !is {
						continue
					}
					n++
					if s.Pins(id) != want[ty.Text(x)] {
						t.Fatalf("%s is pinned %d times, not %d", ty.Text(x), s.Pins(id), want[ty.Text(x)])
					}
				}
			}
		}
	}
}

// TestSharedStore: two memos of one store pin for themselves.
func TestSharedStore(t *testing.T) {
	s := store.New(0)
	one, two := memo.New(s, 1), memo.New(s, 1)
	asked(t, one, intT, strT, false, 1)
	asked(t, two, intT, strT, false, 1)
	pins(t, s, 2, 2)
	asked(t, one, anyT, anyT, true, 1)
	pins(t, s, 1, 1, 2)
	asked(t, two, anyT, anyT, true, 1)
	pins(t, s, 0, 0, 4)
	lengths(t, two, s, 1, 1)
}
