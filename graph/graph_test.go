package graph_test

import (
	"fmt"
	"math/rand"
	"slices"
	"strings"
	"testing"

	"lodger/graph"
)

// of makes a graph of lines: a path, and what it imports.
func of(lines ...string) *graph.Graph {
	var paths []string
	var imports [][]string
	for _, l := range lines {
		words := strings.Fields(l)
		paths, imports = append(paths, words[0]), append(imports, words[1:])
	}
	return graph.New(paths, imports)
}

func example() *graph.Graph {
	return of("a b c", "b d", "c d", "d x", "e f", "f e a", "g g")
}

func is(t *testing.T, what string, got []string, want string) {
	t.Helper()
	if strings.Join(got, " ") != want {
		t.Errorf("%s: %v, not %s", what, got, want)
	}
}

func TestExample(t *testing.T) {
	g := example()
	for p, want := range map[string]bool{"a": false, "b": false, "c": false, "d": false, "e": true, "f": true, "g": true, "x": false, "": false} {
		if g.Cyclic(p) != want {
			t.Errorf("Cyclic(%s)", p)
		}
	}
	is(t, "Order", g.Order(), "e f g d b c a")
	is(t, "Above d", g.Above("d"), "b c")
	is(t, "Above a", g.Above("a"), "f")
	is(t, "Above x", g.Above("x"), "")
	is(t, "Above g", g.Above("g"), "g")
	is(t, "Above e", g.Above("e"), "f")
}

func TestOrders(t *testing.T) {
	for _, c := range []struct {
		lines []string
		want  string
	}{
		{nil, ""}, {[]string{"a"}, "a"}, {[]string{"b", "a", "c"}, "a b c"}, {[]string{"a b", "b c", "c"}, "c b a"}, {[]string{"a c", "b", "c"}, "b c a"}, {[]string{"a z", "b", "z"}, "b z a"},
		{[]string{"z a a a", "a"}, "a z"}, {[]string{"a b", "b a", "0 a", "c b 0"}, "a b 0 c"}, {[]string{"z z", "y z", "x y"}, "z y x"}, {[]string{"c d", "d e", "e c", "a e", "b a"}, "c d e a b"},
		{[]string{"a m", "m", "b a", "n", "c b n"}, "m a b n c"}, {[]string{"B", "a", "A"}, "A B a"}, {[]string{"a b", "b c", "c b"}, "b c a"}, {[]string{"b a", "a", "c a", "aa b"}, "a b aa c"},
	} {
		is(t, strings.Join(c.lines, ", "), of(c.lines...).Order(), c.want)
	}
}

func TestNone(t *testing.T) {
	for i, g := range []*graph.Graph{graph.New([]string{"a", "a"}, [][]string{nil, nil}), graph.New([]string{"a"}, nil), graph.New(nil, [][]string{nil}), graph.New([]string{"a", "b", "a"}, [][]string{{"b"}, nil, nil}), nil} {
		if g != nil || g.Cyclic("a") || len(g.Order()) > 0 || len(g.Above("a")) > 0 {
			t.Errorf("%d is a graph", i)
		}
	}
	if graph.New(nil, nil) == nil {
		t.Error("a graph without paths is one")
	}
}

func TestAnyTexts(t *testing.T) {
	g := graph.New([]string{"", "A b", "\xff"}, [][]string{{"\xff", "none"}, {""}, nil})
	is(t, "Order", g.Order(), "\xff  A b")
	is(t, "Above", g.Above(""), "A b")
}

func TestNotKept(t *testing.T) {
	paths, imports := []string{"b", "a"}, [][]string{{"a", "b", "a"}, nil}
	g := graph.New(paths, imports)
	if paths[0] != "b" || !slices.Equal(imports[0], []string{"a", "b", "a"}) {
		t.Error("what was handed in was changed")
	}
	paths[0], imports[0][0] = "z", "z"
	g.Order()[0] = "changed"
	g.Above("a")[0] = "changed"
	is(t, "Order", g.Order(), "b a")
	is(t, "Above", g.Above("a"), "b")
}

// TestLong: many, one behind the other.
func TestLong(t *testing.T) {
	const n = 2000
	name := func(i int) string { return fmt.Sprintf("%05d", i) }
	var paths []string
	var imports [][]string
	for i := range n {
		paths, imports = append(paths, name(i)), append(imports, []string{name(i + 1)})
	}
	g := graph.New(paths, imports)
	if o := g.Order(); len(o) != n || o[0] != name(n-1) || o[n-1] != name(0) {
		t.Error("a chain")
	}
	imports[n-1] = []string{name(0)}
	g = graph.New(paths, imports)
	if !g.Cyclic(name(n/2)) || g.Order()[0] != name(0) {
		t.Error("a circle")
	}
}

// TestAgainstPlain holds graphs against what the words say, one by one.
func TestAgainstPlain(t *testing.T) {
	rnd := rand.New(rand.NewSource(1))
	for range 1500 {
		n := rnd.Intn(9)
		all := strings.Fields("a b c d e f g h")[:min(n, 8)]
		rnd.Shuffle(len(all), func(i, j int) { all[i], all[j] = all[j], all[i] })
		var imports [][]string
		edges := map[string][]string{}
		for _, p := range all {
			var l []string
			for range rnd.Intn(3) {
				q := strings.Fields("a b c d e f g h i")[rnd.Intn(9)]
				l = append(l, q)
				if slices.Contains(all, q) && !slices.Contains(edges[p], q) {
					edges[p] = append(edges[p], q)
				}
			}
			imports = append(imports, l)
		}
		comes := func(from, to string) bool {
			reached := slices.Clone(edges[from])
			for i := 0; i < len(reached); i++ {
				for _, q := range edges[reached[i]] {
					if !slices.Contains(reached, q) {
						reached = append(reached, q)
					}
				}
			}
			return slices.Contains(reached, to)
		}
		g := graph.New(all, imports)
		rising := slices.Sorted(slices.Values(all))
		var order []string
		for _, p := range rising {
			if g.Cyclic(p) != comes(p, p) {
				t.Fatalf("%v %v: Cyclic(%s)", all, imports, p)
			}
			if comes(p, p) {
				order = append(order, p)
			}
			var above []string
			for _, q := range rising {
				if slices.Contains(edges[q], p) {
					above = append(above, q)
				}
			}
			is(t, "Above "+p, g.Above(p), strings.Join(above, " "))
		}
		for len(order) < len(all) {
			for _, p := range rising {
				if !slices.Contains(order, p) && !slices.ContainsFunc(edges[p], func(q string) bool { return !slices.Contains(order, q) }) {
					order = append(order, p)
					break
				}
			}
		}
		is(t, "Order", g.Order(), strings.Join(order, " "))
	}
}
