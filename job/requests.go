package job

import (
	"lodger/api"
	"lodger/path"
	"lodger/ty"
)

// do does what is asked, or begins it. All but a login needs a session.
func (t *Tenant) do(a asked) api.Response {
	kinds := map[int]func(*Tenant, asked) api.Response{
		api.RqLogin:  (*Tenant).login,
		api.RqLogout: (*Tenant).logout,
		api.RqWrite:  (*Tenant).write,
		api.RqDelete: (*Tenant).delete,
		api.RqRename: (*Tenant).rename,
		api.RqRead:   (*Tenant).read,
		api.RqList:   (*Tenant).list,
		api.RqCheck:  (*Tenant).check,
		api.RqShow:   (*Tenant).show,
	}
	if a.Kind != api.RqLogin {
		if err := t.sessions.Use(a.Token, a.now); err != api.OK {
			return api.Response{Code: err}
		}
	}
	return kinds[a.Kind](t, a)
}

func (t *Tenant) login(a asked) api.Response {
	if !a.drawn {
		return api.Response{Code: api.ErrNone}
	}
	token, err := t.sessions.Login(a.Text, a.nonce, a.now)
	return api.Response{Code: err, Text: token}
}

func (t *Tenant) logout(a asked) api.Response {
	return api.Response{Code: t.sessions.Logout(a.Token, a.now)}
}

func (t *Tenant) write(a asked) api.Response {
	version, err := t.files.Write(a.Path, a.Text)
	return api.Response{Code: err, Number: version}
}

func (t *Tenant) delete(a asked) api.Response {
	return api.Response{Code: t.files.Delete(a.Path)}
}

func (t *Tenant) rename(a asked) api.Response {
	version, err := t.files.Rename(a.Path, a.Text)
	return api.Response{Code: err, Number: version}
}

func (t *Tenant) read(a asked) api.Response {
	f, err := t.files.Read(a.Path)
	return api.Response{Code: err, Text: f.Text, Number: f.Version}
}

func (t *Tenant) list(asked) api.Response {
	var r api.Response
	for _, f := range t.files.List() {
		r.Paths = append(r.Paths, f.Path)
	}
	return r
}

// check begins a check: what is left of it is done in further steps.
func (t *Tenant) check(asked) api.Response {
	if t.meter.Total() == t.quota.Steps {
		return api.Response{Code: api.ErrQuota}
	}
	t.checker.Start(t.files.List())
	var step func() api.Response
	step = func() api.Response {
		if t.checker.Step() {
			return t.checked()
		}
		t.next = step
		return api.Response{}
	}
	t.next = step
	return api.Response{}
}

// checked is the answer of a check that is over, for which the tenant is charged as much as is left to it.
func (t *Tenant) checked() api.Response {
	t.charge = t.checker.Charge() + 2
	if t.meter.Charge(t.charge) != api.OK {
		t.meter.Charge(t.quota.Steps - t.meter.Total())
	}
	return api.Response{Diags: t.checker.Diags(), Number: t.charge}
}

func (t *Tenant) show(a asked) api.Response {
	clean, err := path.Clean(a.Path)
	if err != api.OK {
		return api.Response{Code: err}
	}
	sum, _ := t.checker.Sum(clean)
	for _, v := range sum.Values {
		if v.Name == a.Text {
			return api.Response{Text: ty.Text(v.T)}
		}
	}
	return api.Response{Code: api.ErrNone}
}
