package print

import (
	"strconv"

	"lodger/api"
)

// Strengths, beside those of signs between two (1 to 5): what is weaker than its place stands in parentheses.
const (
	loose    = 0
	prefixed = 6
	applied  = 7
	tight    = 8
)

func (p *printer) strength(e *api.Expr) int {
	of, is := p.kinds[e.Kind]
	if e.Kind == api.ExBin {
		of, is = p.signs[e.Text]
	}
	if !is {
		return tight
	}
	return of
}

// expression writes e in a place of a strength.
func (p *printer) expression(e *api.Expr, place int) {
	if e == nil {
		p.write(none)
		return
	}
	p.inParentheses(p.strength(e) < place, func() { p.form(e) })
}

func (p *printer) form(e *api.Expr) {
	switch e.Kind {
	case api.ExInt:
		p.write(strconv.FormatInt(e.N, 10))
	case api.ExStr:
		p.write(quoted(e.Text))
	case api.ExTrue:
		p.write("true")
	case api.ExFalse:
		p.write("false")
	case api.ExNil:
		p.write("nil")
	case api.ExName:
		p.write(e.Text)
	case api.ExRec:
		p.list("{", "}", p.members(e.Names, " = ", len(e.Args), func(i int) { p.expression(e.Args[i], loose) })...)
	case api.ExBin:
		p.binary(e)
	case api.ExUn:
		p.unary(e)
	default:
		p.compound(e)
	}
}

func (p *printer) compound(e *api.Expr) {
	switch e.Kind {
	case api.ExField:
		p.expression(e.L, applied)
		p.write(".", e.Text)
	case api.ExCall:
		p.expression(e.L, applied)
		p.list("(", ")", p.arguments(e.Args)...)
	case api.ExFun:
		p.params("fn(", e.Names, e.Types)
		p.word(" => ", e.L)
	case api.ExIf:
		p.word("if ", e.L)
		p.word(" then ", e.R)
		p.word(" else ", e.C)
	case api.ExLet:
		p.write("let ", e.Text)
		p.value(e.T, e.L)
		p.word(" in ", e.R)
	case api.ExAs:
		p.word("(", e.L)
		p.write(": ")
		p.written(e.T)
		p.write(")")
	case api.ExRoll:
		p.write("roll ")
		p.written(e.T)
		p.list("(", ")", func() { p.expression(e.L, loose) })
	case api.ExUnroll:
		p.list("unroll(", ")", func() { p.expression(e.L, loose) })
	default:
		p.write(none)
	}
}

// word writes a word, and an expression behind it.
func (p *printer) word(word string, e *api.Expr) {
	p.write(word)
	p.expression(e, loose)
}

func (p *printer) arguments(l []*api.Expr) []func() {
	var things []func()
	for _, e := range l {
		things = append(things, func() { p.expression(e, loose) })
	}
	return things
}

// binary writes both sides; what is on the right, and binds no stronger, stands in parentheses, as the left ones come first.
func (p *printer) binary(e *api.Expr) {
	sign, strength := e.Text, p.signs[e.Text]
	if strength == 0 {
		sign = none
	}
	p.expression(e.L, strength)
	p.write(" ", sign, " ")
	p.expression(e.R, strength+1)
}

func (p *printer) unary(e *api.Expr) {
	switch e.Text {
	case "not":
		p.write("not ")
	case "-":
		p.write("-")
	default:
		p.write(none)
	}
	p.expression(e.L, prefixed)
}
