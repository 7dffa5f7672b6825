package incr

import (
	"lodger/api"
	"lodger/graph"
	"lodger/plan"
	"lodger/sums"
	"lodger/unit"
)

// file is a file of a check, with the paths that it imports.
type file struct {
	text    string
	imports []string
}

// check is one that is under way.
type check struct {
	checker *Checker
	files   map[string]file
	graph   *graph.Graph
	plan    *plan.Plan
	found   map[string]known // of the files that were looked at
	next    func() bool      // does the next step; false, if none is left
	atHand  string           // the file whose result is being made
	made    known            // what comes of it
	left    uint64           // how many steps of that are left
}

// newCheck is a check of files; of several with one path the first one counts.
func newCheck(c *Checker, files []api.File) *check {
	n := &check{checker: c, files: map[string]file{}, found: map[string]known{}}
	var paths []string
	var imports [][]string
	for _, f := range files {
		if _, is := n.files[f.Path]; is {
			continue
		}
		l := unit.Imports(f.Text)
		n.files[f.Path] = file{f.Text, l}
		paths, imports = append(paths, f.Path), append(imports, l)
	}
	n.graph = graph.New(paths, imports)
	var first []string
	for _, path := range paths {
		if n.changed(path) {
			first = append(first, path)
		}
	}
	n.plan = plan.New(n.graph, first)
	n.next = n.pick
	return n
}

// changed tells whether a file is to be looked at, whatever is found of those that it imports.
func (n *check) changed(path string) bool {
	before, was := n.checker.known[path]
	if !was || before.text != n.files[path].text || before.cyclic != n.graph.Cyclic(path) {
		return true
	}
	for _, p := range n.files[path].imports {
		_, is := n.files[p]
		if _, was := n.checker.known[p]; is != was {
			return true
		}
	}
	return false
}

// summary is what is known of a file in this check, or else from the last one.
func (n *check) summary(path string) api.Summary {
	if k, is := n.found[path]; is {
		return k.result.Sum
	}
	return n.checker.known[path].result.Sum
}

// handedIn is what a file imports.
func (n *check) handedIn(path string) []api.Import {
	var l []api.Import
	for _, p := range n.files[path].imports {
		i := api.Import{Path: p}
		if _, is := n.files[p]; is {
			i.There, i.Sum = true, n.summary(p)
		}
		l = append(l, i)
	}
	return l
}

func (n *check) state(path string, imports []api.Import) state {
	if n.graph.Cyclic(path) {
		return state{cyclic: true}
	}
	return state{key: sums.Key(path, n.files[path].text, imports)}
}

// pick takes the next file of the plan. Its result is made, if it is nowhere to be found.
func (n *check) pick() bool {
	path, is := n.plan.Next()
	if !is {
		return false
	}
	imports := n.handedIn(path)
	k := known{state: n.state(path, imports), text: n.files[path].text}
	if r, is := n.remembered(path, k.state); is {
		k.result = r
		n.looked(path, k)
		return true
	}
	k.result = unit.Check(path, k.text, imports, n.checker.memo.Sub)
	n.atHand, n.made, n.left = path, k, k.result.Cost
	n.next = n.work
	return n.next()
}

// remembered is a file's result, where it needs not be made.
func (n *check) remembered(path string, now state) (api.Result, bool) {
	if before, was := n.checker.known[path]; was && before.state == now {
		return before.result, true
	}
	if now.cyclic {
		return cyclic(path), true
	}
	return n.checker.cache.Get(now.key)
}

// cyclic is the result of a file that imports itself.
func cyclic(path string) api.Result {
	return api.Result{
		Diags: []api.Diag{{Path: path, Code: api.DgCycle}},
		Sum:   api.Summary{Path: path, Broken: true},
		Cost:  1,
	}
}

// work does one of the steps that making a result takes.
func (n *check) work() bool {
	n.left--
	if n.left == 0 {
		n.checker.cache.Put(n.made.key, n.made.result)
		n.looked(n.atHand, n.made)
		n.next = n.pick
	}
	return true
}

// looked tells the plan of a file that was looked at: whoever imports it is to be looked at, too, if others see it changed.
func (n *check) looked(path string, k known) {
	n.found[path] = k
	before, was := n.checker.known[path]
	n.plan.Done(path, !was || !sums.Same(before.result.Sum, k.result.Sum))
}
