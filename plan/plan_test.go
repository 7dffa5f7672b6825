package plan_test

import (
	"math/rand"
	"slices"
	"strings"
	"testing"

	"lodger/graph"
	"lodger/plan"
)

func of(lines ...string) *graph.Graph {
	var paths []string
	var imports [][]string
	for _, l := range lines {
		words := strings.Fields(l)
		paths, imports = append(paths, words[0]), append(imports, words[1:])
	}
	return graph.New(paths, imports)
}

func example() *graph.Graph {
	return of("a b c", "b d", "c d", "d x", "e f", "f e a", "g g")
}

func next(t *testing.T, p *plan.Plan, want string) {
	t.Helper()
	if got, is := p.Next(); got != want || is != (want != "") {
		t.Errorf("Next: %s, %v, not %s", got, is, want)
	}
}

func wait(t *testing.T, p *plan.Plan, want int) {
	t.Helper()
	if n := p.Len(); n != want {
		t.Errorf("%d wait, not %d", n, want)
	}
}

func TestExample(t *testing.T) {
	p := plan.New(example(), []string{"c", "d", "x"})
	wait(t, p, 2)
	next(t, p, "d")
	wait(t, p, 1)
	p.Done("d", false)
	next(t, p, "c")
	p.Done("c", true)
	wait(t, p, 1)
	next(t, p, "a")
	next(t, p, "")
	wait(t, p, 0)
	p = plan.New(example(), []string{"a", "d"})
	next(t, p, "d")
	p.Done("d", true)
	wait(t, p, 3)
	next(t, p, "b")
	next(t, p, "c")
	next(t, p, "a")
	next(t, p, "")
}

func TestDone(t *testing.T) {
	p := plan.New(example(), []string{"f", "f", "b"})
	wait(t, p, 2)
	p.Done("d", true) // it is not passed
	p.Done("b", true) // nor is this, which waits
	p.Done("x", true)
	p.Done("", true)
	wait(t, p, 2)
	next(t, p, "f")
	p.Done("f", false)
	wait(t, p, 1)
	p.Done("f", true) // e imports it, and comes ahead of it
	wait(t, p, 2)
	p.Done("f", true)
	wait(t, p, 2)
	next(t, p, "e")
	p.Done("e", true) // f is passed
	wait(t, p, 1)
	next(t, p, "b")
	p.Done("b", true)
	next(t, p, "a")
	p.Done("a", true)
	next(t, p, "")
	p.Done("b", true)
	next(t, p, "")
}

func TestSelf(t *testing.T) {
	p := plan.New(example(), []string{"g"})
	next(t, p, "g")
	p.Done("g", true)
	next(t, p, "")
}

func TestNone(t *testing.T) {
	if plan.New(nil, []string{"a"}) != nil {
		t.Error("a plan without a graph")
	}
	for _, p := range []*plan.Plan{nil, plan.New(example(), nil), plan.New(of(), []string{"a"})} {
		next(t, p, "")
		p.Done("a", true)
		wait(t, p, 0)
	}
}

func TestNotKept(t *testing.T) {
	first := []string{"c", "a"}
	p := plan.New(example(), first)
	first[0], first[1] = "g", "g"
	next(t, p, "c")
	next(t, p, "a")
	next(t, p, "")
}

// TestWhoIsPassed: those of first, and who imports one that is passed and changed; each once, and in order, where nobody is cyclic.
func TestWhoIsPassed(t *testing.T) {
	rnd := rand.New(rand.NewSource(1))
	names := strings.Fields("a b c d e f g h i j")
	for round := range 2000 {
		var lines []string
		for i, n := range names {
			for range rnd.Intn(3) {
				k := rnd.Intn(len(names))
				if round%2 == 0 { // no circles
					k = i + 1 + rnd.Intn(len(names))
				}
				if k < len(names) {
					n += " " + names[k]
				}
			}
			lines = append(lines, n)
		}
		g := of(lines...)
		var first []string
		changed := map[string]bool{}
		for _, n := range names {
			if rnd.Intn(3) == 0 {
				first = append(first, n)
			}
			changed[n] = rnd.Intn(2) == 0
		}
		var passed []string
		p := plan.New(g, first)
		for {
			path, is := p.Next()
			if !is {
				break
			}
			passed = append(passed, path)
			p.Done(path, changed[path])
		}
		want := slices.Clone(first)
		for i := 0; i < len(want); i++ {
			for _, q := range g.Above(want[i]) {
				if changed[want[i]] && !slices.Contains(want, q) {
					want = append(want, q)
				}
			}
		}
		order := g.Order()
		place := func(a, b string) int { return slices.Index(order, a) - slices.Index(order, b) }
		if round%2 == 0 && !slices.IsSortedFunc(passed, place) {
			t.Fatalf("%v: %v", lines, passed)
		}
		slices.SortFunc(want, place)
		slices.SortFunc(passed, place)
		if !slices.Equal(passed, want) {
			t.Fatalf("%v: %v, not %v", lines, passed, want)
		}
	}
}
