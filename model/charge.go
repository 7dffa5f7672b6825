package model

import (
	"lodger/api"
	"lodger/graph"
	"lodger/sub"
	"lodger/sums"
	"lodger/unit"
)

// state is all that a file's result comes of: that it is cyclic, or else its key.
type state struct {
	cyclic bool
	key    string
}

// charge is what a check of files is charged; their states are those of the last check then.
func (t *tenant) charge(files []api.File) uint64 {
	var paths []string
	var imports [][]string
	for _, f := range files {
		paths, imports = append(paths, f.Path), append(imports, unit.Imports(f.Text))
	}
	g := graph.New(paths, imports)
	charge := uint64(2)
	states := map[string]state{}
	for i, f := range files {
		in := handedIn(imports[i], t.sums)
		now := state{cyclic: g.Cyclic(f.Path)}
		if !now.cyclic {
			now.key = sums.Key(f.Path, f.Text, in)
		}
		charge++
		if before, was := t.states[f.Path]; !was || before != now {
			charge += cost(f, now, in)
		}
		states[f.Path] = now
	}
	t.states = states
	return charge
}

// cost is that of a file's result.
func cost(f api.File, s state, imports []api.Import) uint64 {
	if s.cyclic {
		return 1
	}
	return unit.Check(f.Path, f.Text, imports, sub.Sub).Cost
}

// handedIn is what a file imports, with the summaries of those that are there.
func handedIn(paths []string, all []api.Summary) []api.Import {
	var l []api.Import
	for _, p := range paths {
		s, is := summary(all, p)
		l = append(l, api.Import{Path: p, There: is, Sum: s})
	}
	return l
}

// summary is that of a path.
func summary(all []api.Summary, path string) (api.Summary, bool) {
	for _, s := range all {
		if s.Path == path {
			return s, true
		}
	}
	return api.Summary{}, false
}
