package desk

import (
	"strconv"

	"lodger/api"
	"lodger/model"
)

func (d *desk) tellAnswers() {
	for i, c := range d.connections {
		for _, r := range c.answers {
			d.line(answerWords(i, r)...)
		}
	}
}

func answerWords(conn int, r api.Response) []string {
	words := []string{"answer", decimal(conn), decimal(int(r.Code)), strconv.FormatUint(r.Number, 10)}
	if r.Text != "" {
		words = append(words, "text", quoted(r.Text))
	}
	for _, p := range r.Paths {
		words = append(words, "path", quoted(p))
	}
	for _, x := range r.Diags {
		words = append(words, "diag", quoted(x.Path), decimal(x.At), decimal(x.Code))
	}
	return words
}

// holding is what a tenant has.
type holding struct {
	files, bytes, live int
	total              uint64
}

func (d *desk) holding(tenant int) holding {
	t := d.server.Tenant(tenant)
	files := t.Files()
	h := holding{files: len(files), live: t.Live(d.ticks[tenant]), total: t.Total()}
	for _, f := range files {
		h.bytes += len(f.Text)
	}
	return h
}

func (d *desk) tellTenants() {
	for i := range d.script.Tenants {
		h := d.holding(i)
		d.line("tenant", decimal(i), "files", decimal(h.files), "bytes", decimal(h.bytes), "live", decimal(h.live), "total", strconv.FormatUint(h.total, 10))
	}
}

// modelRight tells whether each tenant was sent what the model says of what came.
func (d *desk) modelRight() bool {
	for i := range d.script.Tenants {
		for c, want := range model.Run(i, d.came, d.script.Quota) {
			if d.server.Out(i*api.MaxConns+c) != want {
				return false
			}
		}
	}
	return true
}

// boundsRight tells whether no more is kept, and no tenant has more, than may be.
func (d *desk) boundsRight() bool {
	q := d.script.Quota
	for i := range d.script.Tenants {
		h := d.holding(i)
		if h.files > q.Files || h.bytes > q.Bytes || h.live > q.Sessions || h.total > q.Steps {
			return false
		}
	}
	return d.server.Cached() <= d.script.Capacity
}
