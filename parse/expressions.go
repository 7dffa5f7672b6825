package parse

import "lodger/api"

// expression takes an expr.
func (p *parser) expression() *api.Expr {
	defer p.deeper()()
	switch p.word() {
	case "if":
		e := p.begin(api.ExIf)
		e.L, e.R, e.C = p.expression(), p.behind("then"), p.behind("else")
		return e
	case "let":
		e := p.begin(api.ExLet)
		e.Text, e.T = p.name(), p.maybeType()
		e.L, e.R = p.behind("="), p.behind("in")
		return e
	case "fn":
		e := p.begin(api.ExFun)
		e.Names, e.Types = p.params()
		e.L = p.behind("=>")
		return e
	}
	return p.binary(1)
}

// begin takes the first token of an expression of a kind.
func (p *parser) begin(kind int) *api.Expr {
	return &api.Expr{Kind: kind, At: p.take().At}
}

// binary takes what is bound by signs of a strength, or stronger ones; the left ones first.
func (p *parser) binary(strength int) *api.Expr {
	if strength > strongest {
		return p.factor()
	}
	left := p.binary(strength + 1)
	for p.strengths[p.word()] == strength {
		sign := p.take()
		left = &api.Expr{Kind: api.ExBin, At: sign.At, Text: sign.Text, L: left, R: p.binary(strength + 1)}
	}
	return left
}

// factor takes an f.
func (p *parser) factor() *api.Expr {
	sign := p.word()
	if sign != "not" && sign != "-" {
		return p.postfix()
	}
	e := p.begin(api.ExUn)
	e.Text, e.L = sign, p.deeperFactor()
	return e
}

func (p *parser) deeperFactor() *api.Expr {
	defer p.deeper()()
	return p.factor()
}

// postfix takes a g.
func (p *parser) postfix() *api.Expr {
	left := p.atom()
	for {
		switch p.word() {
		case ".":
			left = &api.Expr{Kind: api.ExField, At: p.take().At, L: left, Text: p.name()}
		case "(":
			left = &api.Expr{Kind: api.ExCall, At: p.take().At, L: left, Args: list(p, ")", p.expression)}
		default:
			return left
		}
	}
}

// atom takes an h.
func (p *parser) atom() *api.Expr {
	switch t := p.now(); t.Kind {
	case api.TokInt:
		e := p.begin(api.ExInt)
		e.N = t.N
		return e
	case api.TokStr:
		e := p.begin(api.ExStr)
		e.Text = t.Text
		return e
	case api.TokName:
		e := p.begin(api.ExName)
		e.Text = t.Text
		return e
	}
	return p.wordAtom()
}

// wordAtom takes an h that begins with a word or a sign.
func (p *parser) wordAtom() *api.Expr {
	switch p.word() {
	case "true":
		return p.begin(api.ExTrue)
	case "false":
		return p.begin(api.ExFalse)
	case "nil":
		return p.begin(api.ExNil)
	case "{":
		return p.record()
	case "(":
		return p.parentheses()
	case "roll":
		e := p.begin(api.ExRoll)
		e.T = p.typeName()
		e.L = p.inParentheses()
		return e
	case "unroll":
		e := p.begin(api.ExUnroll)
		e.L = p.inParentheses()
		return e
	}
	p.wrong(api.ErrSyntax)
	return nil
}

func (p *parser) record() *api.Expr {
	e := p.begin(api.ExRec)
	e.Names, e.Args = members(list(p, "}", func() member[*api.Expr] {
		return member[*api.Expr]{p.name(), p.behind("=")}
	}))
	return e
}

func (p *parser) inParentheses() *api.Expr {
	e := p.behind("(")
	p.must(")")
	return e
}

// parentheses leave nothing, unless there is a type in them.
func (p *parser) parentheses() *api.Expr {
	at := p.now().At
	e := p.behind("(")
	if t := p.maybeType(); t != nil {
		e = &api.Expr{Kind: api.ExAs, At: at, L: e, T: t}
	}
	p.must(")")
	return e
}
