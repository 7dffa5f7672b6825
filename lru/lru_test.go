package lru_test

import (
	"math"
	"math/rand"
	"slices"
	"strings"
	"testing"

	"lodger/lru"
)

func get(t *testing.T, l *lru.Lru[string, int], k string, want int) {
	t.Helper()
	if v, is := l.Get(k); v != want || is != (want != 0) {
		t.Errorf("Get(%s): %d, %v, not %d", k, v, is, want)
	}
}

func keys(t *testing.T, l *lru.Lru[string, int], want string) {
	t.Helper()
	if got := strings.Join(l.Keys(), " "); got != want || l.Len() != len(strings.Fields(want)) {
		t.Errorf("Keys: %s, Len %d, not %s", got, l.Len(), want)
	}
}

func TestExample(t *testing.T) {
	l := lru.New[string, int](2)
	keys(t, l, "")
	l.Put("a", 1)
	l.Put("b", 2)
	get(t, l, "a", 1)
	keys(t, l, "a b")
	l.Put("c", 3)
	keys(t, l, "c a")
	get(t, l, "b", 0)
	l.Put("a", 4)
	keys(t, l, "a c")
	get(t, l, "a", 4)
	keys(t, l, "a c")
	get(t, l, "c", 3)
	keys(t, l, "c a")
	l.Put("c", 5)
	keys(t, l, "c a")
	l.Put("", 6)
	if strings.Join(l.Keys(), ",") != ",c" {
		t.Error(l.Keys())
	}
}

func TestNoCapacity(t *testing.T) {
	for _, capacity := range []int{0, -1, math.MinInt} {
		l := lru.New[string, int](capacity)
		l.Put("a", 1)
		get(t, l, "a", 0)
		keys(t, l, "")
	}
}

func TestOne(t *testing.T) {
	l := lru.New[string, int](1)
	l.Put("a", 1)
	l.Put("a", 2)
	keys(t, l, "a")
	l.Put("b", 3)
	keys(t, l, "b")
	get(t, l, "a", 0)
	get(t, l, "b", 3)
}

func TestNone(t *testing.T) {
	var none *lru.Lru[string, int]
	none.Put("a", 1)
	get(t, none, "a", 0)
	keys(t, none, "")
}

func TestOtherTypes(t *testing.T) {
	type point struct{ x, y int }
	l := lru.New[point, []string](3)
	l.Put(point{1, 2}, []string{"a"})
	l.Put(point{2, 1}, nil)
	if v, is := l.Get(point{1, 2}); !is || len(v) != 1 {
		t.Error("a struct")
	}
	if v, is := l.Get(point{2, 1}); !is || v != nil {
		t.Error("a value that is nil is there all the same")
	}
	if v, is := l.Get(point{0, 0}); is || v != nil {
		t.Error("none")
	}
	if !slices.Equal(l.Keys(), []point{{2, 1}, {1, 2}}) {
		t.Error(l.Keys())
	}
	l.Keys()[0] = point{9, 9}
	if l.Keys()[0] != (point{2, 1}) {
		t.Error("Keys are not new")
	}
}

// TestAgainstPlainList does the same to stores of many capacities, and to a list of what was used, the last one ahead.
func TestAgainstPlainList(t *testing.T) {
	rnd := rand.New(rand.NewSource(1))
	var stores []*lru.Lru[string, int]
	for capacity := range 9 {
		stores = append(stores, lru.New[string, int](capacity))
	}
	names := strings.Fields("a b c d e f g h i j k")
	lists := make([][]string, len(stores)) // what each has
	last := map[string]int{}
	for i := range 6000 {
		k, put := names[rnd.Intn(len(names))], rnd.Intn(2) == 0
		if put {
			last[k] = i + 1
		}
		for capacity, l := range stores {
			at := slices.Index(lists[capacity], k)
			if put {
				l.Put(k, i+1)
			} else if at >= 0 {
				get(t, l, k, last[k])
			} else {
				get(t, l, k, 0)
			}
			if at >= 0 {
				lists[capacity] = slices.Delete(lists[capacity], at, at+1)
			}
			if at >= 0 || put {
				lists[capacity] = append([]string{k}, lists[capacity]...)
			}
			lists[capacity] = lists[capacity][:min(len(lists[capacity]), capacity)]
			keys(t, l, strings.Join(lists[capacity], " "))
		}
		if t.Failed() {
			t.FailNow()
		}
	}
}

// TestMoreCapacity: it has all that one of less has, in the same order.
func TestMoreCapacity(t *testing.T) {
	rnd := rand.New(rand.NewSource(2))
	small, large := lru.New[int, int](4), lru.New[int, int](7)
	for range 5000 {
		k, put := rnd.Intn(12), rnd.Intn(2) == 0
		for _, l := range []*lru.Lru[int, int]{small, large} {
			if put {
				l.Put(k, k)
			} else {
				l.Get(k)
			}
		}
		few := small.Keys()
		some := slices.DeleteFunc(large.Keys(), func(k int) bool { return !slices.Contains(few, k) })
		if !slices.Equal(few, some) {
			t.Fatalf("%v, %v", few, large.Keys())
		}
	}
}
