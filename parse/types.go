package parse

import "lodger/api"

// written takes a type.
func (p *parser) written() *api.TypeEx {
	defer p.deeper()()
	at := p.now().At
	args := []*api.TypeEx{p.one()}
	for p.may("|") {
		args = append(args, p.one())
	}
	if len(args) == 1 {
		return args[0]
	}
	return &api.TypeEx{Kind: api.TxUnion, At: at, Args: args}
}

// one takes what stands between the signs of a union.
func (p *parser) one() *api.TypeEx {
	switch p.word() {
	case "int":
		return p.plain(api.TxInt)
	case "bool":
		return p.plain(api.TxBool)
	case "str":
		return p.plain(api.TxStr)
	case "nil":
		return p.plain(api.TxNil)
	case "any":
		return p.plain(api.TxAny)
	case "(":
		p.take()
		t := p.written()
		p.must(")")
		return t
	case "{":
		return p.recordType()
	case "fn":
		return p.functionType()
	}
	return p.typeName()
}

func (p *parser) plain(kind int) *api.TypeEx {
	return &api.TypeEx{Kind: kind, At: p.take().At}
}

func (p *parser) recordType() *api.TypeEx {
	t := &api.TypeEx{Kind: api.TxRec, At: p.take().At}
	t.Names, t.Args = members(list(p, "}", func() member[*api.TypeEx] {
		name := p.name()
		p.must(":")
		return member[*api.TypeEx]{name, p.written()}
	}))
	return t
}

func (p *parser) functionType() *api.TypeEx {
	t := &api.TypeEx{Kind: api.TxFun, At: p.take().At}
	p.must("(")
	t.Args = list(p, ")", p.written)
	p.must("->")
	t.Ret = p.written()
	return t
}

func (p *parser) typeName() *api.TypeEx {
	t := &api.TypeEx{Kind: api.TxName, At: p.now().At, Name: p.name()}
	if p.may(".") {
		t.Alias, t.Name = t.Name, p.name()
	}
	return t
}
