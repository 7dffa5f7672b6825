package sums

import (
	"lodger/api"
	"lodger/wire"
)

// noForm is what gives up bytes that are none.
type noForm struct{}

// decoder reads what a builder laid.
type decoder struct {
	*wire.Reader
	left int // how many types the one that is read may still be made of
}

// Decode is the summary whose bytes these are.
func Decode(s string) (sum api.Summary, code api.Errno) {
	defer func() {
		switch wrong := recover().(type) {
		case nil:
		case noForm:
			sum, code = api.Summary{}, api.ErrForm
		default:
			panic(wrong)
		}
	}()
	d := &decoder{Reader: wire.NewReader(s)}
	sum = d.summary()
	d.must(d.End() && may(sum))
	return sum, api.OK
}

func (d *decoder) must(is bool) {
	if !is {
		panic(noForm{})
	}
}

// number reads a number; it gives up at the end, so that no count is believed behind which there is nothing.
func (d *decoder) number() uint64 {
	n := d.Num()
	d.must(d.OK())
	return n
}

func (d *decoder) text() string {
	s := d.Text()
	d.must(d.OK())
	return s
}

// many reads how many things there are, and each of them.
func many[T any](d *decoder, read func() T) []T {
	var l []T
	for range d.number() {
		l = append(l, read())
	}
	return l
}

func (d *decoder) summary() api.Summary {
	s := api.Summary{Path: d.text()}
	switch d.number() {
	case 0:
		s.Values, s.Types = many(d, d.export), many(d, d.export)
	case 1:
		s.Broken = true
	default:
		d.must(false)
	}
	return s
}

func (d *decoder) export() api.Export {
	x := api.Export{Name: d.text()}
	d.left = api.MaxSize
	x.T = d.typ()
	return x
}

// typ reads a type. One that is too large is given up at once, however deep it is.
func (d *decoder) typ() *api.Type {
	d.must(d.left > 0)
	d.left--
	t := &api.Type{Kind: int(d.number())}
	switch t.Kind {
	case api.TyName:
		t.Name = d.text()
	case api.TyRec:
		for _, f := range many(d, d.field) {
			t.Names, t.Args = append(t.Names, f.Name), append(t.Args, f.T)
		}
	case api.TyFun:
		t.Args, t.Ret = many(d, d.typ), d.typ()
	case api.TyUnion:
		t.Args = many(d, d.typ)
	}
	return t
}

func (d *decoder) field() api.Export {
	return api.Export{Name: d.text(), T: d.typ()}
}
