package job_test

import (
	"fmt"
	"math"
	"math/rand"
	"reflect"
	"slices"
	"strings"
	"testing"

	"lodger/api"
	"lodger/cache"
	"lodger/job"
	"lodger/mac"
	"lodger/memo"
	"lodger/msg"
	"lodger/sha"
	"lodger/store"
	"lodger/sub"
	"lodger/unit"
)

var small = api.Quota{Files: 2, Bytes: 100, Sessions: 1, Ttl: 10, Steps: 50}

var large = api.Quota{Files: 64, Bytes: 1 << 20, Sessions: 3, Ttl: 1000, Steps: 1 << 40}

// client asks a tenant, at a time.
type client struct {
	*testing.T
	*job.Tenant
	now   uint64
	token string
}

func tenant(t *testing.T, q api.Quota, capacity int) *client {
	return &client{T: t, Tenant: job.New("s", q, cache.New(capacity), memo.New(store.New(capacity), capacity))}
}

// bytes does a request of bytes: its answer, and what it took.
func (c *client) bytes(body, nonce string, drawn bool) (r api.Response, real, charge uint64) {
	c.Helper()
	if err := c.Begin(body, c.now, nonce, drawn); err != api.OK || !c.Busy() {
		c.Fatalf("Begin: %v", err)
	}
	for steps := uint64(1); ; steps++ {
		answer, done := c.Step()
		real, charge = c.Spent()
		if real != steps || done == c.Busy() {
			c.Fatalf("%d steps, not %d", real, steps)
		}
		if !done {
			if answer != "" || charge != 0 {
				c.Fatalf("%x, %d, and it is not done", answer, charge)
			}
			continue
		}
		r, err := msg.Answered(answer)
		if err != api.OK || len(answer) > api.MaxFrame || real > charge {
			c.Fatalf("%x, %v; %d steps, the charge %d", answer, err, real, charge)
		}
		return r, real, charge
	}
}

func (c *client) ask(r api.Request) api.Response {
	c.Helper()
	if r.Kind != api.RqLogin && r.Token == "" {
		r.Token = c.token
	}
	body, err := msg.Encode(r)
	if err != api.OK {
		c.Fatalf("%v: %v", r, err)
	}
	a, real, charge := c.bytes(body, "n", true)
	if (r.Kind != api.RqCheck || a.Code != api.OK && a.Code != api.ErrLong) && (real != 1 || charge != 1) {
		c.Errorf("%v: %d steps, the charge %d", r, real, charge)
	}
	return a
}

func (c *client) is(r api.Request, want api.Response) {
	c.Helper()
	if got := c.ask(r); !reflect.DeepEqual(plain(got), want) {
		c.Errorf("%.60v: %.200v, not %.200v", r, got, want)
	}
}

func (c *client) login() {
	c.Helper()
	a := c.ask(api.Request{Kind: api.RqLogin, Text: "s"})
	if a.Code != api.OK || len(a.Text) != 64 {
		c.Fatalf("login: %v", a)
	}
	c.token = a.Text
}

// plain is a response whose lists are nil, where they are empty.
func plain(r api.Response) api.Response {
	if len(r.Paths) == 0 {
		r.Paths = nil
	}
	if len(r.Diags) == 0 {
		r.Diags = nil
	}
	return r
}

func code(err api.Errno) api.Response { return api.Response{Code: err} }
func version(n uint64) api.Response   { return api.Response{Number: n} }
func write(path, text string) api.Request {
	return api.Request{Kind: api.RqWrite, Path: path, Text: text}
}
func rename(path, text string) api.Request {
	return api.Request{Kind: api.RqRename, Path: path, Text: text}
}
func show(path, name string) api.Request {
	return api.Request{Kind: api.RqShow, Path: path, Text: name}
}
func read(path string) api.Request   { return api.Request{Kind: api.RqRead, Path: path} }
func remove(path string) api.Request { return api.Request{Kind: api.RqDelete, Path: path} }

var (
	check  = api.Request{Kind: api.RqCheck}
	list   = api.Request{Kind: api.RqList}
	logout = api.Request{Kind: api.RqLogout}
)

func TestExample(t *testing.T) {
	c := tenant(t, small, 10)
	if a, _, _ := c.bytes("\xff", "n", true); a.Code != api.ErrForm {
		t.Errorf("%v", a)
	}
	login, _ := msg.Encode(api.Request{Kind: api.RqLogin, Text: "s"})
	if a, _, _ := c.bytes(login, "n", false); a.Code != api.ErrNone {
		t.Errorf("%v", a)
	}
	c.is(api.Request{Kind: api.RqLogin, Text: "x"}, code(api.ErrAuth))
	c.login()
	c.is(api.Request{Kind: api.RqLogin, Text: "s"}, code(api.ErrFull))
	c.is(write("m", "let a = 1"), version(1))
	c.is(check, api.Response{Number: 14})
	c.is(check, api.Response{Number: 3})
	c.is(show("m", "a"), api.Response{Text: "int"})
	c.is(read("x"), code(api.ErrNone))
	c.is(show("m", "b"), code(api.ErrNone))
	c.is(rename("m", "x"), version(1))
	c.is(list, api.Response{Paths: []string{"x"}})
	c.now = 10
	for _, r := range []api.Request{write("m", "let a = 1"), check, show("m", "a"), read("x"), rename("m", "x"), list, logout, remove("x")} {
		c.is(r, code(api.ErrAuth))
	}
	if c.Live(9) != 1 || c.Live(10) != 0 || c.Total() != 17 {
		t.Errorf("live %d, total %d", c.Live(9), c.Total())
	}
	if l := c.Files(); len(l) != 1 || l[0] != (api.File{Path: "x", Text: "let a = 1", Version: 1}) {
		t.Errorf("%v", l)
	}
}

func TestLogins(t *testing.T) {
	c := tenant(t, api.Quota{Sessions: 2, Ttl: 10}, 0)
	body, _ := msg.Encode(api.Request{Kind: api.RqLogin, Text: "s"})
	wrong, _ := msg.Encode(api.Request{Kind: api.RqLogin, Text: "x"})
	for _, x := range []struct {
		body, nonce string
		drawn       bool
		want        api.Errno
	}{{wrong, "", false, api.ErrNone}, {body, "n", false, api.ErrNone}, {wrong, "n", true, api.ErrAuth}, {body, "", true, api.OK}, {body, "n", true, api.OK}, {wrong, "n", true, api.ErrAuth}, {body, "n", true, api.ErrFull}} {
		a, real, charge := c.bytes(x.body, x.nonce, x.drawn)
		if a.Code != x.want || (a.Text != "") != (x.want == api.OK) || real != 1 || charge != 1 {
			t.Errorf("%v, not %v", a, x.want)
		}
		if x.want == api.OK {
			number := fmt.Sprintf("\x00\x00\x00\x00\x00\x00\x00%c", c.Live(0))
			if a.Text != sha.Hex(mac.Mac("s", x.nonce+number)) {
				t.Errorf("the token %s", a.Text)
			}
			c.token = a.Text
		}
	}
	c.is(list, api.Response{})
	c.is(logout, api.Response{})
	c.is(logout, code(api.ErrAuth))
	c.is(list, code(api.ErrAuth))
	if c.Live(0) != 1 {
		t.Errorf("%d live", c.Live(0))
	}
}

func TestFiles(t *testing.T) {
	c := tenant(t, small, 3)
	c.login()
	c.is(write("/a/./b", "xyz"), version(1))
	c.is(write("..", "x"), code(api.ErrPath))
	c.is(write("a/b", strings.Repeat("x", api.MaxText+1)), code(api.ErrLong))
	c.is(write("a/b", strings.Repeat("x", 101)), code(api.ErrQuota))
	c.is(read("a//b"), api.Response{Text: "xyz", Number: 1})
	c.is(read("A"), code(api.ErrPath))
	c.is(write("c", ""), version(1))
	c.is(write("d", ""), code(api.ErrQuota))
	c.is(list, api.Response{Paths: []string{"a/b", "c"}})
	c.is(rename("a/b", "c"), code(api.ErrTwice))
	c.is(rename("a/b", ".."), code(api.ErrPath))
	c.is(rename("z", "y"), code(api.ErrNone))
	c.is(rename("c", "d"), version(1))
	c.is(remove("c"), code(api.ErrNone))
	c.is(remove("d"), api.Response{})
	c.is(remove("D"), code(api.ErrPath))
	c.is(write("d", "q"), version(2))
	if l := c.Files(); len(l) != 2 || l[1] != (api.File{Path: "d", Text: "q", Version: 2}) {
		t.Errorf("%v", l)
	}
	c.Files()[0].Path = "changed"
	c.is(list, api.Response{Paths: []string{"a/b", "d"}})
}

func TestChecks(t *testing.T) {
	c := tenant(t, large, 5)
	c.login()
	c.is(show("m", "a"), code(api.ErrNone))
	c.is(check, api.Response{Number: 2})
	c.is(write("m", `import "l" as u let a: int = u.v`), version(1))
	c.is(write("l", `let v = "s" fun f(x) = x`), version(1))
	c.is(show("m", "a"), code(api.ErrNone))
	l := unit.Check("l", `let v = "s" fun f(x) = x`, nil, sub.Sub)
	m := unit.Check("m", `import "l" as u let a: int = u.v`, []api.Import{{Path: "l", There: true, Sum: l.Sum}}, sub.Sub)
	wrong := []api.Diag{{Path: "m", At: 30, Code: api.DgWrong}}
	c.is(check, api.Response{Diags: wrong, Number: 2 + 2 + l.Cost + m.Cost})
	c.is(check, api.Response{Diags: wrong, Number: 4})
	c.is(write("l", `let v = 1 let w = q`), version(2))
	for _, x := range []struct {
		path, name string
		want       api.Response
	}{
		{"m", "a", api.Response{Text: "int"}}, {"x/.././m", "a", api.Response{Text: "int"}}, {"l", "v", api.Response{Text: "str"}}, {"l", "f", api.Response{Text: "fn(any) -> any"}}, {"l", "w", code(api.ErrNone)}, {"l", "", code(api.ErrNone)}, {"k", "v", code(api.ErrNone)}, {"..", "v", code(api.ErrPath)}, {"M", "v", code(api.ErrPath)},
	} {
		c.is(show(x.path, x.name), x.want) // as of the last check
	}
	c.is(remove("m"), api.Response{})
	c.is(show("m", "a"), api.Response{Text: "int"})
	l = unit.Check("l", `let v = 1 let w = q`, nil, sub.Sub)
	c.is(check, api.Response{Diags: []api.Diag{{Path: "l", At: 18, Code: api.DgName}}, Number: 3 + l.Cost})
	c.is(show("m", "a"), code(api.ErrNone))
	c.is(show("l", "v"), api.Response{Text: "int"})
}

// TestSteps: how many each request takes, and what it is charged.
func TestSteps(t *testing.T) {
	c := tenant(t, large, 0)
	c.login()
	c.is(write("m", "let a = 1"), version(1))
	body, _ := msg.Encode(api.Request{Kind: api.RqCheck, Token: c.token})
	if _, real, charge := c.bytes(body, "", false); real != 1+11+1 || charge != 14 {
		t.Errorf("%d steps, the charge %d", real, charge)
	}
	if _, real, charge := c.bytes(body, "", false); real != 2 || charge != 3 {
		t.Errorf("%d steps, the charge %d", real, charge)
	}
	if _, real, charge := c.bytes("", "", false); real != 1 || charge != 1 {
		t.Errorf("%d steps, the charge %d", real, charge)
	}
	c.now = 2000
	if a, real, charge := c.bytes(body, "", false); a.Code != api.ErrAuth || real != 1 || charge != 1 {
		t.Errorf("%v: %d steps, the charge %d", a, real, charge)
	}
	if c.Total() != 17 {
		t.Errorf("the total %d", c.Total())
	}
}

// TestOneAtATime: while a check is under way nothing else is begun; what is done meanwhile with its time is its own.
func TestOneAtATime(t *testing.T) {
	c := tenant(t, large, 0)
	c.login()
	c.is(write("m", "let a = 1"), version(1))
	body, _ := msg.Encode(api.Request{Kind: api.RqCheck, Token: c.token})
	if c.Begin(body, 0, "", false) != api.OK || c.Begin(body, 0, "", false) != api.ErrFull {
		t.Error("two at a time")
	}
	if real, charge := c.Spent(); real != 0 || charge != 0 {
		t.Errorf("%d steps, the charge %d", real, charge)
	}
	for i := range 12 {
		if s, done := c.Step(); s != "" || done || !c.Busy() || c.Begin(body, 0, "", false) != api.ErrFull {
			t.Fatalf("step %d: %x, %v", i, s, done)
		}
	}
	s, done := c.Step()
	if a, err := msg.Answered(s); !done || err != api.OK || a.Number != 14 || c.Busy() {
		t.Errorf("%x, %v", s, done)
	}
	if s, done := c.Step(); s != "" || done {
		t.Error("a step of nothing")
	}
	if real, charge := c.Spent(); real != 13 || charge != 14 {
		t.Errorf("%d steps, the charge %d", real, charge)
	}
	if c.Begin(body, 0, "", false) != api.OK {
		t.Error("the next one")
	}
}

func TestQuotaOfSteps(t *testing.T) {
	q := small
	for _, x := range []struct {
		steps uint64
		codes []api.Errno
		total uint64
	}{
		{0, []api.Errno{api.ErrQuota}, 0}, {1, []api.Errno{api.OK, api.ErrQuota}, 1}, {13, []api.Errno{api.OK, api.ErrQuota, api.ErrQuota}, 13}, {14, []api.Errno{api.OK, api.ErrQuota}, 14}, {15, []api.Errno{api.OK, api.OK, api.ErrQuota}, 15}, {17, []api.Errno{api.OK, api.OK, api.ErrQuota}, 17}, {18, []api.Errno{api.OK, api.OK, api.OK, api.ErrQuota}, 18}, {math.MaxUint64, []api.Errno{api.OK, api.OK, api.OK}, 20},
	} {
		q.Steps = x.steps
		c := tenant(t, q, 0)
		c.login()
		c.is(write("m", "let a = 1"), version(1))
		for i, want := range x.codes {
			number := uint64(3)
			if i == 0 {
				number = 14
			}
			if want != api.OK {
				number = 0
			}
			c.is(check, api.Response{Code: want, Number: number}) // the charge is told, though it is more than what is left
		}
		if c.Total() != x.total {
			t.Errorf("%d steps: the total %d", x.steps, c.Total())
		}
	}
}

// TestRefusedCheck: it does not begin, so what was checked last stays.
func TestRefusedCheck(t *testing.T) {
	q := small
	q.Steps = 14
	c := tenant(t, q, 0)
	c.login()
	c.is(write("m", "let a = 1"), version(1))
	c.is(check, api.Response{Number: 14})
	c.is(write("m", `let a = ""`), version(2))
	c.is(check, code(api.ErrQuota))
	c.is(show("m", "a"), api.Response{Text: "int"})
}

// TestLongAnswers: what was done, was done.
func TestLongAnswers(t *testing.T) {
	c := tenant(t, large, 2)
	c.login()
	segment := strings.Repeat("s", 16)
	for i := range 64 {
		c.is(write(strings.Repeat(segment+"/", 7)+fmt.Sprintf("%016d", i), ""), version(1))
	}
	c.is(list, code(api.ErrLong))
	c.is(write("more", ""), code(api.ErrQuota))
	c = tenant(t, large, 2)
	c.login()
	for i := range 5 {
		c.is(write(fmt.Sprint("f", i), strings.Repeat("let a=q ", 500)), version(1))
	}
	a := c.ask(check)
	if a.Code != api.ErrLong || a.Number == 0 || len(a.Diags) > 0 || c.Total() != a.Number {
		t.Errorf("%v, the total %d", a, c.Total())
	}
	c.is(show("f0", "a"), api.Response{Text: "any"})
	if got := c.ask(check); got.Code != api.ErrLong || got.Number != 7 {
		t.Errorf("%v", got)
	}
}

// TestLongestAnswer: one of just as many bytes as a frame may have is told.
func TestLongestAnswer(t *testing.T) {
	for more, want := range []api.Errno{api.OK, api.ErrLong} {
		c := tenant(t, large, 0)
		c.login()
		ahead := strings.Repeat(strings.Repeat("s", 16)+"/", 7)
		for i := range 63 {
			c.is(write(ahead+fmt.Sprintf("%08d", i), ""), version(1)) // 127 bytes, and one that says so
		}
		c.is(write(ahead+strings.Repeat("x", 2+more), ""), version(1))
		if a := c.ask(list); a.Code != want || (len(a.Paths) == 64) != (want == api.OK) {
			t.Errorf("%d more: %v, %d paths", more, a.Code, len(a.Paths))
		}
	}
}

func TestNoTenant(t *testing.T) {
	var none *job.Tenant
	if none.Begin("", 0, "", false) != api.ErrNil || none.Busy() || len(none.Files()) > 0 || none.Live(0) != 0 || none.Total() != 0 {
		t.Error("a tenant that is none")
	}
	if s, done := none.Step(); s != "" || done {
		t.Error("Step")
	}
	if real, charge := none.Spent(); real != 0 || charge != 0 {
		t.Error("Spent")
	}
	c := tenant(t, small, 0)
	if real, charge := c.Spent(); real != 0 || charge != 0 || c.Busy() || c.Total() != 0 || len(c.Files()) > 0 || c.Live(0) != 0 {
		t.Error("a tenant to which nothing came")
	}
}

// TestAnyBytes: whatever comes is answered.
func TestAnyBytes(t *testing.T) {
	rnd := rand.New(rand.NewSource(1))
	c := tenant(t, small, 1)
	for range 5000 {
		b := make([]byte, rnd.Intn(8))
		for i := range b {
			b[i] = byte(rnd.Intn(12))
		}
		c.bytes(string(b), "n", rnd.Intn(2) == 0)
	}
}

// some is a request of what rnd chooses.
func some(rnd *rand.Rand, token string) api.Request {
	pick := func(l ...string) string { return l[rnd.Intn(len(l))] }
	path := pick("a", "b", "c", "..", "d/e")
	text := pick(`import "b" as u let x = u.x`, `import "a" as u let x: int = u.x`, "let x = 1", `let x = ""`, "let", "", strings.Repeat("#", 60), strings.Repeat("#", 5000))
	if rnd.Intn(12) == 0 {
		token = pick("", strings.Repeat("0", 64))
	}
	switch rnd.Intn(12) {
	case 0:
		return api.Request{Kind: api.RqLogin, Text: pick("s", "s", "x")}
	case 1:
		if rnd.Intn(6) == 0 {
			return api.Request{Kind: api.RqLogout, Token: token}
		}
		return api.Request{Kind: api.RqList, Token: token}
	case 2, 3, 4:
		return api.Request{Kind: api.RqWrite, Token: token, Path: path, Text: text}
	case 5:
		return api.Request{Kind: api.RqDelete, Token: token, Path: path}
	case 6:
		return api.Request{Kind: api.RqRename, Token: token, Path: path, Text: pick("a", "b", "c", "")}
	case 7:
		return api.Request{Kind: api.RqRead, Token: token, Path: path}
	case 8:
		return api.Request{Kind: api.RqShow, Token: token, Path: path, Text: pick("x", "y")}
	}
	return api.Request{Kind: api.RqCheck, Token: token}
}

// TestWhatItHangsOn: two tenants to whom the same comes are answered the same, whatever cache and memo they have, and whoever shares them; so is a third one that leaves out whatever was refused.
func TestWhatItHangsOn(t *testing.T) {
	for seed := range 30 {
		rnd := rand.New(rand.NewSource(int64(seed)))
		q := api.Quota{Files: 3, Bytes: 120, Sessions: 1 + rnd.Intn(3), Ttl: 8, Steps: uint64(rnd.Intn(4000))}
		kept, remembered := cache.New(rnd.Intn(4)), memo.New(store.New(rnd.Intn(5)), rnd.Intn(5))
		shared := &client{T: t, Tenant: job.New("s", q, kept, remembered)}
		other := &client{T: t, Tenant: job.New("s", large, kept, remembered)}
		alone, fewer := tenant(t, q, 0), tenant(t, q, 100)
		other.login()
		token, now := "", uint64(0)
		for range 150 {
			if rnd.Intn(3) == 0 {
				other.ask(some(rnd, other.token))
			}
			if rnd.Intn(6) == 0 {
				now++
			}
			shared.now, alone.now, fewer.now = now, now, now
			body, err := msg.Encode(some(rnd, token))
			if err != api.OK {
				continue
			}
			drawn := rnd.Intn(5) > 0
			a, _, charge := shared.bytes(body, "n", drawn)
			b, _, also := alone.bytes(body, "n", drawn)
			if !reflect.DeepEqual(plain(a), plain(b)) || charge != also {
				t.Fatalf("%v, not %v", a, b)
			}
			if a.Code == api.OK || a.Code == api.ErrLong {
				if c, _, _ := fewer.bytes(body, "n", drawn); !reflect.DeepEqual(plain(a), plain(c)) {
					t.Fatalf("%v, not %v: what is refused changes something", a, c)
				}
			}
			if len(a.Text) == 64 && a.Code == api.OK {
				token = a.Text
			}
			for _, x := range []*client{alone, fewer} {
				if !slices.Equal(x.Files(), shared.Files()) || x.Live(now) != shared.Live(now) || x.Total() != shared.Total() {
					t.Fatal("the state")
				}
			}
			bytes := 0
			for _, f := range shared.Files() {
				bytes += len(f.Text)
			}
			if len(shared.Files()) > q.Files || bytes > q.Bytes || shared.Live(now) > q.Sessions || shared.Total() > q.Steps {
				t.Fatal("above the quota")
			}
		}
	}
}
