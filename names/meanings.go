package names

import (
	"lodger/api"
	"lodger/ty"
)

// meanings tells what written types mean in a scope.
type meanings struct {
	scope *Scope
	tell  func(at, code int)
	kinds map[int]func(*api.TypeEx) *api.Type
}

func newMeanings(s *Scope, tell func(at, code int)) *meanings {
	m := &meanings{scope: s, tell: tell}
	m.kinds = map[int]func(*api.TypeEx) *api.Type{
		api.TxInt: m.plain, api.TxBool: m.plain, api.TxStr: m.plain, api.TxNil: m.plain, api.TxAny: m.plain,
		api.TxName: m.name, api.TxRec: m.record, api.TxFun: m.function, api.TxUnion: m.union,
	}
	return m
}

// of is what t means; what is told of its parts is told ahead.
func (m *meanings) of(t *api.TypeEx) *api.Type {
	if t == nil || m.kinds[t.Kind] == nil {
		return anyType()
	}
	return m.kinds[t.Kind](t)
}

// wrong tells a code, and is any.
func (m *meanings) wrong(t *api.TypeEx, code int) *api.Type {
	m.tell(t.At, code)
	return anyType()
}

func (m *meanings) all(l []*api.TypeEx) []*api.Type {
	var out []*api.Type
	for _, t := range l {
		out = append(out, m.of(t))
	}
	return out
}

func (m *meanings) plain(t *api.TypeEx) *api.Type {
	switch t.Kind {
	case api.TxInt:
		return &api.Type{Kind: api.TyInt}
	case api.TxBool:
		return &api.Type{Kind: api.TyBool}
	case api.TxStr:
		return &api.Type{Kind: api.TyStr}
	case api.TxNil:
		return &api.Type{Kind: api.TyNil}
	}
	return anyType()
}

func (m *meanings) name(t *api.TypeEx) *api.Type {
	named, is := m.scope.Named(t.Alias, t.Name)
	if !is {
		return m.wrong(t, api.DgType)
	}
	return named
}

func (m *meanings) record(t *api.TypeEx) *api.Type {
	r, err := ty.Rec(t.Names, m.all(t.Args))
	switch err {
	case api.OK:
		return r
	case api.ErrLong:
		return m.wrong(t, api.DgSize)
	}
	return m.wrong(t, api.DgTwice)
}

func (m *meanings) function(t *api.TypeEx) *api.Type {
	args := m.all(t.Args)
	return m.sized(t)(ty.Fun(args, m.of(t.Ret)))
}

func (m *meanings) union(t *api.TypeEx) *api.Type {
	return m.sized(t)(ty.Union(m.all(t.Args)))
}

// sized takes what was made of t's parts; where nothing was, it was too large.
func (m *meanings) sized(t *api.TypeEx) func(*api.Type, api.Errno) *api.Type {
	return func(made *api.Type, err api.Errno) *api.Type {
		if err != api.OK {
			return m.wrong(t, api.DgSize)
		}
		return made
	}
}
