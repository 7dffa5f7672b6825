package ty

import (
	"cmp"
	"slices"

	"lodger/api"
)

func mayNot(t *api.Type) bool {
	return !may(t)
}

// within is a type, unless it is too large.
func within(t *api.Type) (*api.Type, api.Errno) {
	if Size(t) > api.MaxSize {
		return nil, api.ErrLong
	}
	return t, api.OK
}

// Rec is the record of fields, in the order of their names.
func Rec(names []string, args []*api.Type) (*api.Type, api.Errno) {
	if len(names) != len(args) || some(names, noField) || some(args, mayNot) {
		return nil, api.ErrArg
	}
	order := make([]int, len(names))
	for i := range order {
		order[i] = i
	}
	slices.SortFunc(order, func(a, b int) int { return cmp.Compare(names[a], names[b]) })
	t := &api.Type{Kind: api.TyRec}
	for _, i := range order {
		t.Names, t.Args = append(t.Names, names[i]), append(t.Args, args[i])
	}
	if !rising(t.Names) {
		return nil, api.ErrArg
	}
	return within(t)
}

// Fun is the function that takes args and answers ret.
func Fun(args []*api.Type, ret *api.Type) (*api.Type, api.Errno) {
	if some(args, mayNot) || mayNot(ret) {
		return nil, api.ErrArg
	}
	return within(&api.Type{Kind: api.TyFun, Args: slices.Clone(args), Ret: ret})
}

// textual is a type and its text.
type textual struct {
	text string
	t    *api.Type
}

// Union is what is one of them.
func Union(l []*api.Type) (*api.Type, api.Errno) {
	if len(l) == 0 || some(l, mayNot) {
		return nil, api.ErrArg
	}
	if some(l, func(t *api.Type) bool { return t.Kind == api.TyAny }) {
		return &api.Type{Kind: api.TyAny}, api.OK
	}
	one := alternatives(l)
	slices.SortStableFunc(one, func(a, b textual) int { return cmp.Compare(a.text, b.text) })
	one = slices.CompactFunc(one, func(a, b textual) bool { return a.text == b.text })
	if len(one) == 1 {
		return one[0].t, api.OK
	}
	t := &api.Type{Kind: api.TyUnion}
	for _, x := range one {
		t.Args = append(t.Args, x.t)
	}
	return within(t)
}

// alternatives are the types of a list, those of unions in place of these.
func alternatives(l []*api.Type) []textual {
	var out []textual
	for _, t := range l {
		if t.Kind != api.TyUnion {
			out = append(out, textual{text(t), t})
			continue
		}
		for _, x := range t.Args {
			out = append(out, textual{text(x), x})
		}
	}
	return out
}
