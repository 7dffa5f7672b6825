package infer

import (
	"lodger/api"
	"lodger/ty"
)

func (c *Checker) plain(e *api.Expr) *api.Type {
	switch e.Kind {
	case api.ExInt:
		return plainType(api.TyInt)
	case api.ExStr:
		return plainType(api.TyStr)
	case api.ExNil:
		return plainType(api.TyNil)
	}
	return plainType(api.TyBool)
}

func (c *Checker) name(e *api.Expr) *api.Type {
	l := c.bound[e.Text]
	if len(l) == 0 {
		return c.tell(e, api.DgName)
	}
	return l[len(l)-1]
}

func (c *Checker) field(e *api.Expr) *api.Type {
	if e.L != nil && e.L.Kind == api.ExName && len(c.bound[e.L.Text]) == 0 {
		if t, isAlias, known := c.scope.Value(e.L.Text, e.Text); known {
			return usable(t)
		} else if isAlias {
			return c.tell(e, api.DgName)
		}
	}
	t := c.of(e.L)
	switch t.Kind {
	case api.TyAny:
		return t
	case api.TyRec, api.TyUnion:
		if l, is := fields(t, e.Text); is {
			return c.made(e)(ty.Union(l))
		}
	}
	return c.tell(e, api.DgField)
}

// alternatives are the parts of a union; of another type it alone.
func alternatives(t *api.Type) []*api.Type {
	if t.Kind == api.TyUnion {
		return t.Args
	}
	return []*api.Type{t}
}

// fields are the types of a field in a record, or in each record of a union, if all have it.
func fields(t *api.Type, name string) ([]*api.Type, bool) {
	var l []*api.Type
	for _, r := range alternatives(t) {
		f := fieldOf(r, name)
		if f == nil {
			return nil, false
		}
		l = append(l, f)
	}
	return l, true
}

func fieldOf(r *api.Type, name string) *api.Type {
	for i, n := range r.Names {
		if n == name {
			return r.Args[i]
		}
	}
	return nil
}

func (c *Checker) record(e *api.Expr) *api.Type {
	var args []*api.Type
	for i := range e.Names {
		args = append(args, c.of(at(e.Args, i)))
	}
	t, err := ty.Rec(e.Names, args)
	if err == api.ErrArg {
		return c.tell(e, api.DgTwice)
	}
	return c.made(e)(t, err)
}

func (c *Checker) call(e *api.Expr) *api.Type {
	t := c.of(e.L)
	switch t.Kind {
	case api.TyAny:
		c.all(e.Args)
		return t
	case api.TyFun:
		return c.callOne(e, t)
	case api.TyUnion:
		if allTake(t.Args, len(e.Args)) {
			return c.callEach(e, t.Args)
		}
	}
	c.tell(e, api.DgCall)
	c.all(e.Args)
	return anyType()
}

func (c *Checker) callOne(e *api.Expr, f *api.Type) *api.Type {
	if len(f.Args) != len(e.Args) {
		c.tell(e, api.DgArity)
		c.all(e.Args)
		return f.Ret
	}
	for i, x := range e.Args {
		c.want(x, f.Args[i])
	}
	return f.Ret
}

// allTake: are all of them functions of n arguments?
func allTake(l []*api.Type, n int) bool {
	for _, t := range l {
		if t.Kind != api.TyFun || len(t.Args) != n {
			return false
		}
	}
	return true
}

// callEach is a call of what may be any of some functions: each of them must take what it is given.
func (c *Checker) callEach(e *api.Expr, functions []*api.Type) *api.Type {
	for i, x := range e.Args {
		t := c.of(x)
		for _, f := range functions {
			if !c.ask(t, f.Args[i]) {
				c.tell(x, api.DgWrong)
				break
			}
		}
	}
	var results []*api.Type
	for _, f := range functions {
		results = append(results, f.Ret)
	}
	return c.made(e)(ty.Union(results))
}

func (c *Checker) function(e *api.Expr) *api.Type {
	var args []*api.Type
	for i := range e.Names {
		args = append(args, c.resolve(at(e.Types, i)))
	}
	return c.made(e)(ty.Fun(args, c.body(e, args)))
}

// body is the type of a function's body, in which its names are bound.
func (c *Checker) body(e *api.Expr, args []*api.Type) *api.Type {
	for i, name := range e.Names {
		c.bind(name, args[i])
		defer c.unbind(name)
	}
	return c.of(e.L)
}

func (c *Checker) choice(e *api.Expr) *api.Type {
	c.want(e.L, plainType(api.TyBool))
	return c.made(e)(ty.Union(c.all([]*api.Expr{e.R, e.C})))
}

func (c *Checker) let(e *api.Expr) *api.Type {
	var t *api.Type
	if e.T != nil {
		t = c.resolve(e.T)
		c.want(e.L, t)
	} else {
		t = c.of(e.L)
	}
	c.bind(e.Text, t)
	defer c.unbind(e.Text)
	return c.of(e.R)
}

func (c *Checker) binary(e *api.Expr) *api.Type {
	switch e.Text {
	case "or", "and":
		return c.both(e, api.TyBool, api.TyBool)
	case "<":
		return c.both(e, api.TyInt, api.TyBool)
	case "..":
		return c.both(e, api.TyStr, api.TyStr)
	case "+", "-", "*":
		return c.both(e, api.TyInt, api.TyInt)
	case "==":
		l, r := c.of(e.L), c.of(e.R)
		if !c.ask(l, r) && !c.ask(r, l) {
			c.tell(e, api.DgEqual)
		}
		return plainType(api.TyBool)
	}
	return anyType()
}

// both checks both sides for a kind of type, and is another one.
func (c *Checker) both(e *api.Expr, wanted, is int) *api.Type {
	c.want(e.L, plainType(wanted))
	c.want(e.R, plainType(wanted))
	return plainType(is)
}

func (c *Checker) unary(e *api.Expr) *api.Type {
	kind := api.TyBool
	switch e.Text {
	case "not":
	case "-":
		kind = api.TyInt
	default:
		return anyType()
	}
	c.want(e.L, plainType(kind))
	return plainType(kind)
}

func (c *Checker) as(e *api.Expr) *api.Type {
	t := c.resolve(e.T)
	c.want(e.L, t)
	return t
}

// bodyOf is what a named type is made of, if that is known here.
func (c *Checker) bodyOf(t *api.Type) (*api.Type, bool) {
	if t.Kind != api.TyName {
		return nil, false
	}
	body, is := c.scope.Body(t.Name)
	return usable(body), is
}

func (c *Checker) roll(e *api.Expr) *api.Type {
	t := c.resolve(e.T)
	if body, is := c.bodyOf(t); is {
		c.want(e.L, body)
		return t
	}
	c.of(e.L)
	if t.Kind != api.TyAny {
		return c.tell(e, api.DgRoll)
	}
	return t
}

func (c *Checker) unroll(e *api.Expr) *api.Type {
	t := c.of(e.L)
	if t.Kind == api.TyAny {
		return t
	}
	if body, is := c.bodyOf(t); is {
		return body
	}
	return c.tell(e, api.DgRoll)
}
