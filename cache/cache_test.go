package cache_test

import (
	"math"
	"math/rand"
	"reflect"
	"strings"
	"testing"

	"lodger/api"
	"lodger/cache"
)

// result is one that is told from others by its cost.
func result(cost uint64) api.Result {
	in := &api.Type{Kind: api.TyInt}
	return api.Result{
		Diags: []api.Diag{{Path: "m", At: int(cost), Code: 1}},
		Sum:   api.Summary{Path: "m", Values: []api.Export{{Name: "v", T: in}}, Types: []api.Export{{Name: "T", T: in}}},
		Cost:  cost,
	}
}

func get(t *testing.T, c *cache.Cache, key string, want uint64) {
	t.Helper()
	r, is := c.Get(key)
	if want == 0 && (is || r.Sum.Path != "" || r.Cost != 0 || len(r.Diags)+len(r.Sum.Values)+len(r.Sum.Types) > 0) {
		t.Errorf("Get(%s): %v, %v", key, r, is)
	}
	if want > 0 && (!is || !reflect.DeepEqual(r, result(want))) {
		t.Errorf("Get(%s): %v, %v, not %d", key, r, is, want)
	}
}

func length(t *testing.T, c *cache.Cache, want int) {
	t.Helper()
	if n := c.Len(); n != want {
		t.Errorf("%d are kept, not %d", n, want)
	}
}

func TestExample(t *testing.T) {
	c := cache.New(2)
	length(t, c, 0)
	c.Put("a", result(1))
	c.Put("b", result(2))
	get(t, c, "a", 1)
	c.Put("c", result(3))
	get(t, c, "b", 0)
	get(t, c, "a", 1)
	get(t, c, "c", 3)
	length(t, c, 2)
	c.Put("a", result(2))
	get(t, c, "a", 2)
	length(t, c, 2)
	c.Put("d", result(4)) // behind a's Put and Get, c was used least lately
	get(t, c, "c", 0)
	get(t, c, "a", 2)
}

func TestNoCapacity(t *testing.T) {
	for _, capacity := range []int{0, -1, math.MinInt} {
		c := cache.New(capacity)
		c.Put("a", result(1))
		get(t, c, "a", 0)
		length(t, c, 0)
	}
}

func TestKeys(t *testing.T) {
	c := cache.New(100)
	l := []string{"", "a", "A", "ab", "a\x00", "\x00a", "\xff", strings.Repeat("k", 5000), strings.Repeat("k", 5001)}
	for i, k := range l {
		get(t, c, k, 0)
		c.Put(k, result(uint64(i+1)))
	}
	for i, k := range l {
		get(t, c, k, uint64(i+1))
	}
	get(t, c, "aa", 0)
	length(t, c, len(l))
}

// TestUnchanged, whatever is done with what was handed in, or got.
func TestUnchanged(t *testing.T) {
	change := func(r api.Result) {
		r.Diags[0].At = 99
		r.Sum.Values[0].Name, r.Sum.Types[0].T = "w", nil
		r.Diags = append(r.Diags[:0], api.Diag{Path: "z"})
		r.Sum.Values = append(r.Sum.Values[:0], api.Export{Name: "z"})
	}
	c := cache.New(2)
	in := result(7)
	c.Put("a", in)
	change(in)
	get(t, c, "a", 7)
	got, _ := c.Get("a")
	change(got)
	get(t, c, "a", 7)
}

func TestEmptyLists(t *testing.T) {
	c := cache.New(2)
	c.Put("a", api.Result{Cost: 5, Sum: api.Summary{Path: "p", Broken: true}})
	if r, is := c.Get("a"); !is || r.Cost != 5 || r.Sum.Path != "p" || !r.Sum.Broken || len(r.Diags)+len(r.Sum.Values)+len(r.Sum.Types) > 0 {
		t.Errorf("%v", r)
	}
}

func TestNone(t *testing.T) {
	var none *cache.Cache
	none.Put("a", result(1))
	get(t, none, "a", 0)
	length(t, none, 0)
}

// TestNoMoreThanTheCapacity: what is got is what was put last under just that key.
func TestNoMoreThanTheCapacity(t *testing.T) {
	rnd := rand.New(rand.NewSource(1))
	for capacity := range 7 {
		c := cache.New(capacity)
		last := map[string]uint64{}
		for i := range 1000 {
			k := string(rune('a' + rnd.Intn(9)))
			if rnd.Intn(2) == 0 {
				last[k] = uint64(i + 1)
				c.Put(k, result(last[k]))
			} else if r, is := c.Get(k); is && r.Cost != last[k] {
				t.Fatalf("%s: %d", k, r.Cost)
			}
			if c.Len() > capacity {
				t.Fatalf("%d are kept", c.Len())
			}
		}
	}
}
