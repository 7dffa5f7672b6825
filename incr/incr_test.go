package incr_test

import (
	"math/rand"
	"slices"
	"strings"
	"testing"

	"lodger/api"
	"lodger/cache"
	"lodger/graph"
	"lodger/incr"
	"lodger/memo"
	"lodger/store"
	"lodger/sub"
	"lodger/sums"
	"lodger/unit"
	"lodger/whole"
)

func files(lines ...string) []api.File {
	var l []api.File
	for _, x := range lines {
		path, text, _ := strings.Cut(x, ": ")
		l = append(l, api.File{Path: path, Text: text})
	}
	return l
}

func checker(capacity int) *incr.Checker {
	return incr.New(cache.New(capacity), memo.New(store.New(capacity), capacity))
}

// finish steps up to the end: how many steps that were.
func finish(t *testing.T, c *incr.Checker) uint64 {
	t.Helper()
	n := uint64(0)
	for !c.Step() {
		n++
		if c.Real() != n {
			t.Fatalf("%d real steps, not %d", c.Real(), n)
		}
	}
	if c.Real() != n || !c.Step() {
		t.Errorf("%d real steps, not %d", c.Real(), n)
	}
	return n
}

// run checks files, and holds what is told against a check from scratch.
func run(t *testing.T, c *incr.Checker, l []api.File, real, charge uint64) {
	t.Helper()
	c.Start(l)
	n := finish(t, c)
	if n != real || c.Charge() != charge {
		t.Errorf("%v: %d steps, the charge %d, not %d, %d", l, n, c.Charge(), real, charge)
	}
	right(t, c, l)
}

func right(t *testing.T, c *incr.Checker, l []api.File) {
	t.Helper()
	want, _ := whole.Check(l)
	if !slices.Equal(c.Diags(), want) {
		t.Errorf("%v: %v, not %v", l, c.Diags(), want)
	}
	all := whole.Sums(l)
	for _, s := range all {
		if got, is := c.Sum(s.Path); !is || !sums.Same(got, s) {
			t.Errorf("%v: the summary of %s", l, s.Path)
		}
	}
	if _, is := c.Sum("nobody"); is {
		t.Error("a summary of nobody")
	}
}

// cost is that of a file that imports nothing.
func cost(path, text string) uint64 { return unit.Check(path, text, nil, sub.Sub).Cost }

const user = `import "b" as u let x = u.y`

func costs(text string) (a, b uint64) {
	r := unit.Check("b", text, nil, sub.Sub)
	return unit.Check("a", user, []api.Import{{Path: "b", There: true, Sum: r.Sum}}, sub.Sub).Cost, r.Cost
}

func TestExample(t *testing.T) {
	store := store.New(10)
	kept, remembered := cache.New(10), memo.New(store, 10)
	c := incr.New(kept, remembered)
	l := files("a: "+user, "b: let y = 1")
	a, b := costs("let y = 1")
	run(t, c, l, a+b, 2+a+b)
	c.Start(l)
	if !c.Step() || c.Real() != 0 || c.Charge() != 2 {
		t.Error("the same once more")
	}
	a, b = costs(`let y = "s"`)
	run(t, c, files("a: "+user, `b: let y = "s"`), a+b, 2+a+b)
	_, b = costs(`let y = "t"`)
	run(t, c, files("a: "+user, `b: let y = "t"`), b, 2+b)
	a, b = costs("let y = 1")
	run(t, incr.New(kept, remembered), l, 2, 2+a+b)
}

// TestStates: what is looked at, and what that takes, where files come and go.
func TestStates(t *testing.T) {
	c := checker(0)
	lone := cost("b", "let y = 1")
	a, b := costs("let y = 1")
	lost := unit.Check("a", user, []api.Import{{Path: "b"}}, sub.Sub).Cost
	run(t, c, nil, 0, 0)
	run(t, c, files("b: let y = 1"), lone, 1+lone)
	run(t, c, files("b: let y = 1", "a: "+user), a, 2+a)
	run(t, c, files("a: "+user), lost, 1+lost)
	run(t, c, files("a: "+user, "b: let y = 1"), a+b, 2+a+b)
	run(t, c, files("a: "+user+" # more", "b: let y = 1"), a+7, 2+a+7)
	run(t, c, files("a: "+user, "b: let y = 1"), a, 2+a)
	// b imports a: both are cyclic. Then b does no more, and a is as it was.
	run(t, c, files("a: "+user, `b: import "a" as v let y = 1`), 2, 2+2)
	run(t, c, files("a: "+user, `b: import "a" as v let y = 2`), 1, 2)
	run(t, c, files("a: "+user, "b: let y = 1"), a+b, 2+a+b)
	run(t, c, files(`a: import "a" as u`), 1, 1+1)
	run(t, c, files(`a: import "a" as u`, `b: import "a" as u`), cost("b", `import "x" as u`), 2+cost("b", `import "x" as u`))
	run(t, c, nil, 0, 0)
}

// TestBrokenIsBroken: what a file that is no source says otherwise, nobody sees.
func TestBrokenIsBroken(t *testing.T) {
	c := checker(0)
	a, _ := costs("let")
	run(t, c, files("a: "+user, "b: let"), a+4, 2+a+4)
	run(t, c, files("a: "+user, "b: let let"), 8, 2+8)
	run(t, c, files("a: "+user, `b: import "a" as u let`), 20, 2+20)
	// A file of which the same is seen as of a cyclic one.
	run(t, c, files("a: "+user, `b: import "b" as u`), 1, 2+1)
}

// TestFirstOfOnePath: of several with one path the first one counts.
func TestFirstOfOnePath(t *testing.T) {
	c := checker(3)
	run(t, c, files("b: let y = 1", "b: let y = z"), cost("b", "let y = 1"), 1+cost("b", "let y = 1"))
	run(t, c, files("b: let y = 1"), 0, 1)
}

// TestCostOfOne: a file without bytes is made in one step.
func TestCostOfOne(t *testing.T) {
	c := checker(1)
	c.Start(files("a: "))
	if c.Step() || c.Real() != 1 || !c.Step() || c.Real() != 1 || c.Charge() != 2 {
		t.Errorf("%d steps, the charge %d", c.Real(), c.Charge())
	}
	run(t, incr.New(cache.New(1), memo.New(store.New(1), 1)), files("a: ", "b: "), 2, 4)
}

// TestGivenUp: a check that is given up changes nothing of what is known; what it kept in the cache may be used.
func TestGivenUp(t *testing.T) {
	c := checker(0)
	l := files("a: "+user, "b: let y = 1")
	a, b := costs("let y = 1")
	run(t, c, l, a+b, 2+a+b)
	c.Start(files("a: let z = q", "c: "))
	for range 3 {
		if c.Step() {
			t.Fatal("over too early")
		}
	}
	if c.Real() != 3 || c.Charge() != 2+a+b {
		t.Errorf("%d steps, the charge %d", c.Real(), c.Charge())
	}
	right(t, c, l)
	c.Start(l)
	if c.Real() != 0 || !c.Step() || c.Charge() != 2 {
		t.Error("what is known was changed")
	}
	right(t, c, l)
}

func isZero(s api.Summary) bool {
	return s.Path == "" && !s.Broken && len(s.Values)+len(s.Types) == 0
}

func TestBeforeAny(t *testing.T) {
	c := checker(5)
	if !c.Step() || len(c.Diags()) > 0 || c.Charge() != 0 || c.Real() != 0 {
		t.Error("something is told of nothing")
	}
	c.Start(files("a: let x = q"))
	if len(c.Diags()) > 0 || c.Charge() != 0 {
		t.Error("something is told too early")
	}
	if s, is := c.Sum("a"); is || !isZero(s) {
		t.Error("a summary of nobody")
	}
}

func TestNone(t *testing.T) {
	if incr.New(nil, memo.New(store.New(1), 1)) != nil || incr.New(cache.New(1), nil) != nil {
		t.Error("a checker of nothing")
	}
	var none *incr.Checker
	none.Start(files("a: "))
	if s, is := none.Sum("a"); !none.Step() || len(none.Diags()) > 0 || none.Charge() != 0 || none.Real() != 0 || is || !isZero(s) {
		t.Error("a checker that is none")
	}
}

func TestAnswersAreNew(t *testing.T) {
	c := checker(5)
	l := files("a: let x = q type T = int")
	c.Start(l)
	l[0].Text = "changed"
	finish(t, c)
	l = files("a: let x = q type T = int")
	c.Diags()[0].At = 99
	s, _ := c.Sum("a")
	s.Values[0].Name, s.Types[0].Name = "changed", "changed"
	right(t, c, l)
	c.Start(l)
	if !c.Step() || c.Charge() != 1 {
		t.Error("what was handed in is kept")
	}
	right(t, c, l)
}

// state is what a file's result comes of, told as plainly as can be.
func states(l []api.File) (states map[string]string, costs map[string]uint64) {
	states, costs = map[string]string{}, map[string]uint64{}
	all := map[string]api.Summary{}
	var paths []string
	var imports [][]string
	for _, f := range l {
		paths, imports = append(paths, f.Path), append(imports, unit.Imports(f.Text))
	}
	for _, s := range whole.Sums(l) {
		all[s.Path] = s
	}
	g := graph.New(paths, imports)
	for i, f := range l {
		if g.Cyclic(f.Path) {
			states[f.Path], costs[f.Path] = "cyclic", 1
			continue
		}
		var in []api.Import
		for _, p := range imports[i] {
			s, is := all[p]
			in = append(in, api.Import{Path: p, There: is, Sum: s})
		}
		states[f.Path] = sums.Key(f.Path, f.Text, in)
		costs[f.Path] = unit.Check(f.Path, f.Text, in, sub.Sub).Cost
	}
	return states, costs
}

func text(rnd *rand.Rand) string {
	pick := func(l ...string) string { return l[rnd.Intn(len(l))] }
	t := ""
	for _, alias := range []string{"u", "v"} {
		if rnd.Intn(2) > 0 {
			t += `import "` + pick("a", "b", "c", "d", "e", "x") + `" as ` + alias + " "
		}
	}
	return t + pick("let x = 1", "let x = 2", "let x = u.x", "let x: int = v.x", `let x = ""`, "let x = q", "type T = {t: u.T} let x = 1", "let", "") + pick("", "", " fun f(a: u.T): str = v.x == a", " let z = roll u.T(1)")
}

// TestWhateverWasChecked: checkers that share a cache and a memo are told, and charged, what hangs on their own files alone; no more steps are taken than are charged.
func TestWhateverWasChecked(t *testing.T) {
	for capacity := range 6 {
		rnd := rand.New(rand.NewSource(int64(capacity)))
		kept, types := cache.New(capacity), store.New(capacity)
		remembered := memo.New(types, capacity)
		type tenant struct {
			c      *incr.Checker
			l      []api.File
			states map[string]string
		}
		var tenants []*tenant
		for range 3 {
			tenants = append(tenants, &tenant{c: incr.New(kept, remembered)})
		}
		for range 400 {
			x := tenants[rnd.Intn(len(tenants))]
			x.l = slices.Clone(x.l)
			for range rnd.Intn(3) {
				f := api.File{Path: string(rune('a' + rnd.Intn(5))), Text: text(rnd)}
				x.l = slices.DeleteFunc(x.l, func(o api.File) bool { return o.Path == f.Path })
				if rnd.Intn(4) > 0 {
					x.l = append(x.l, f)
				}
			}
			if rnd.Intn(5) == 0 { // one that is given up
				l := append(files("given: let a = up"), x.l...)
				x.c.Start(l)
				for range rnd.Intn(40) {
					if x.c.Step() { // though it came to its end
						x.states, _ = states(l)
						break
					}
				}
			}
			x.c.Start(x.l)
			real := finish(t, x.c)
			now, costs := states(x.l)
			want := uint64(0)
			for p, s := range now {
				want++
				if before, was := x.states[p]; !was || before != s {
					want += costs[p]
				}
			}
			if x.c.Charge() != want {
				t.Fatalf("%v: the charge %d, not %d", x.l, x.c.Charge(), want)
			}
			if real > x.c.Charge() {
				t.Fatalf("%d steps, the charge %d", real, x.c.Charge())
			}
			x.states = now
			right(t, x.c, x.l)
			if kept.Len() > capacity || remembered.Len() > capacity {
				t.Fatal("more is remembered than may be")
			}
			if t.Failed() {
				t.FailNow()
			}
		}
	}
}
