package model

import (
	"lodger/api"
	"lodger/path"
	"lodger/ty"
	"lodger/whole"
)

func (t *tenant) login(r api.Request) api.Response {
	nonce, drawn := t.draw()
	if !drawn {
		return api.Response{Code: api.ErrNone}
	}
	token, err := t.sessions.Login(r.Text, nonce, t.time)
	return api.Response{Code: err, Text: token}
}

func (t *tenant) logout(r api.Request) api.Response {
	return api.Response{Code: t.sessions.Logout(r.Token, t.time)}
}

func (t *tenant) write(r api.Request) api.Response {
	version, err := t.files.Write(r.Path, r.Text)
	return api.Response{Code: err, Number: version}
}

func (t *tenant) delete(r api.Request) api.Response {
	return api.Response{Code: t.files.Delete(r.Path)}
}

func (t *tenant) rename(r api.Request) api.Response {
	version, err := t.files.Rename(r.Path, r.Text)
	return api.Response{Code: err, Number: version}
}

func (t *tenant) read(r api.Request) api.Response {
	f, err := t.files.Read(r.Path)
	return api.Response{Code: err, Text: f.Text, Number: f.Version}
}

func (t *tenant) list(api.Request) api.Response {
	var paths []string
	for _, f := range t.files.List() {
		paths = append(paths, f.Path)
	}
	return api.Response{Paths: paths}
}

// check checks all files from scratch; what it is charged hangs on what changed since the last check.
func (t *tenant) check(api.Request) api.Response {
	if t.meter.Total() == t.steps {
		return api.Response{Code: api.ErrQuota}
	}
	files := t.files.List()
	diags, _ := whole.Check(files)
	t.sums = whole.Sums(files)
	charge := t.charge(files)
	if t.meter.Charge(charge) != api.OK {
		t.meter.Charge(t.steps - t.meter.Total())
	}
	return api.Response{Diags: diags, Number: charge}
}

func (t *tenant) show(r api.Request) api.Response {
	clean, err := path.Clean(r.Path)
	if err != api.OK {
		return api.Response{Code: err}
	}
	sum, _ := summary(t.sums, clean)
	for _, v := range sum.Values {
		if v.Name == r.Text {
			return api.Response{Text: ty.Text(v.T)}
		}
	}
	return api.Response{Code: api.ErrNone}
}
