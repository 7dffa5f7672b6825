package model_test

import (
	"fmt"
	"math"
	"math/rand"
	"reflect"
	"strings"
	"testing"

	"lodger/api"
	"lodger/frame"
	"lodger/mac"
	"lodger/model"
	"lodger/msg"
	"lodger/server"
	"lodger/sha"
)

var small = api.Quota{Files: 2, Bytes: 100, Sessions: 1, Ttl: 10, Steps: 1000}

func packed(t *testing.T, r api.Request) string {
	t.Helper()
	body, err := msg.Encode(r)
	if err != api.OK {
		t.Fatalf("%v: %v", r, err)
	}
	f, _ := frame.Pack(body)
	return f
}

func answers(t *testing.T, sent string) []api.Response {
	t.Helper()
	var l []api.Response
	n := 0
	for _, body := range frame.New().Feed(sent) {
		r, err := msg.Answered(body)
		if err != api.OK {
			t.Fatalf("%x", body)
		}
		n += 2 + len(body)
		l = append(l, r)
	}
	if n != len(sent) {
		t.Fatal("something is left")
	}
	return l
}

// script is events of a tenant, all on one connection.
type script struct {
	*testing.T
	conn   int
	quota  api.Quota
	events []api.Event
	token  string
}

func newScript(t *testing.T, conn int, q api.Quota) *script {
	s := &script{T: t, conn: conn, quota: q}
	s.event(api.EvNonce, conn/4, "n")
	s.ask(api.Request{Kind: api.RqLogin, Text: server.Secret(conn / 4)})
	s.token = s.last().Text
	return s
}

func (s *script) event(kind, a int, data string) {
	s.events = append(s.events, api.Event{Kind: kind, A: a, Data: data})
}

func (s *script) ask(r api.Request) {
	s.Helper()
	if r.Kind != api.RqLogin {
		r.Token = s.token
	}
	s.event(api.EvBytes, s.conn, packed(s.T, r))
}

func (s *script) last() api.Response {
	s.Helper()
	l := answers(s.T, model.Run(s.conn/4, s.events, s.quota)[s.conn%4])
	return l[len(l)-1]
}

func (s *script) is(r api.Request, want api.Response) {
	s.Helper()
	s.ask(r)
	if got := s.last(); !reflect.DeepEqual(plain(got), want) {
		s.Errorf("%.60v: %.200v, not %.200v", r, got, want)
	}
}

// plain is a response whose lists are nil, where they are empty.
func plain(r api.Response) api.Response {
	if len(r.Paths) == 0 {
		r.Paths = nil
	}
	if len(r.Diags) == 0 {
		r.Diags = nil
	}
	return r
}

func code(err api.Errno) api.Response { return api.Response{Code: err} }
func version(n uint64) api.Response   { return api.Response{Number: n} }
func write(path, text string) api.Request {
	return api.Request{Kind: api.RqWrite, Path: path, Text: text}
}
func show(path, name string) api.Request {
	return api.Request{Kind: api.RqShow, Path: path, Text: name}
}
func read(path string) api.Request   { return api.Request{Kind: api.RqRead, Path: path} }
func remove(path string) api.Request { return api.Request{Kind: api.RqDelete, Path: path} }
func rename(path, to string) api.Request {
	return api.Request{Kind: api.RqRename, Path: path, Text: to}
}

var (
	check  = api.Request{Kind: api.RqCheck}
	list   = api.Request{Kind: api.RqList}
	logout = api.Request{Kind: api.RqLogout}
)

func TestExample(t *testing.T) {
	s := newScript(t, 5, small)
	if want := sha.Hex(mac.Mac("secret-1", "n\x00\x00\x00\x00\x00\x00\x00\x01")); s.token != want {
		t.Errorf("the token %s", s.token)
	}
	s.is(api.Request{Kind: api.RqLogin, Text: "secret-1"}, code(api.ErrNone))
	s.is(write("m", "let a = 1"), version(1))
	s.is(check, api.Response{Number: 14})
	s.is(check, api.Response{Number: 3})
	for range 10 {
		s.event(api.EvTick, 1, "")
	}
	s.is(list, code(api.ErrAuth))
}

func TestRequests(t *testing.T) {
	s := newScript(t, 31, small)
	s.event(api.EvNonce, 7, "m")
	s.is(api.Request{Kind: api.RqLogin, Text: "x"}, code(api.ErrAuth))
	s.event(api.EvNonce, 7, "m")
	s.is(api.Request{Kind: api.RqLogin, Text: "secret-7"}, code(api.ErrFull))
	s.is(show("a", "x"), code(api.ErrNone))
	s.is(write("..", ""), code(api.ErrPath))
	s.is(write("a", strings.Repeat("#", 101)), code(api.ErrQuota))
	s.is(write("a", `import "b" as u let x: int = u.x`), version(1))
	s.is(write("b/../b", `let x = ""`), version(1))
	s.is(write("c", ""), code(api.ErrQuota))
	s.is(list, api.Response{Paths: []string{"a", "b"}})
	s.is(read("b"), api.Response{Text: `let x = ""`, Number: 1})
	s.is(read("c"), code(api.ErrNone))
	wrong := []api.Diag{{Path: "a", At: 30, Code: api.DgWrong}}
	s.is(check, api.Response{Diags: wrong, Number: 2 + 2 + (32 + 1 + 1 + 1 + 1) + (10 + 1 + 1)})
	s.is(show("a", "x"), api.Response{Text: "int"})
	s.is(show("a/../b", "x"), api.Response{Text: "str"})
	s.is(show("b", "y"), code(api.ErrNone))
	s.is(show("..", "y"), code(api.ErrPath))
	s.is(rename("a", "b"), code(api.ErrTwice))
	s.is(rename("a", "c"), version(1))
	s.is(show("c", "x"), code(api.ErrNone))
	s.is(check, api.Response{Diags: []api.Diag{{Path: "c", At: 30, Code: api.DgWrong}}, Number: 2 + 2 + 36})
	s.is(write("b", `let x = "y"`), version(2))
	s.is(check, api.Response{Diags: []api.Diag{{Path: "c", At: 30, Code: api.DgWrong}}, Number: 2 + 2 + 13})
	s.is(write("b", `import "c" as u let x = 1`), version(3))
	s.is(check, api.Response{Diags: []api.Diag{{Path: "b", Code: api.DgCycle}, {Path: "c", Code: api.DgCycle}}, Number: 2 + 2 + 1 + 1})
	s.is(write("b", `import "c" as u let x = 2`), version(4))
	s.is(check, api.Response{Diags: []api.Diag{{Path: "b", Code: api.DgCycle}, {Path: "c", Code: api.DgCycle}}, Number: 2 + 2})
	s.is(remove("b"), api.Response{})
	s.is(remove("b"), code(api.ErrNone))
	s.is(check, api.Response{Diags: []api.Diag{{Path: "c", Code: api.DgImport}}, Number: 2 + 1 + 36})
	s.is(logout, api.Response{})
	s.is(logout, code(api.ErrAuth))
	s.is(check, code(api.ErrAuth))
}

func TestQuotaOfSteps(t *testing.T) {
	for _, steps := range []uint64{0, 1, 13, 14, 16, 17, math.MaxUint64} {
		q := small
		q.Steps = steps
		s := newScript(t, 0, q)
		s.is(write("m", "let a = 1"), version(1))
		total := uint64(0)
		for i := range 3 {
			if total == steps {
				s.is(check, code(api.ErrQuota))
				continue
			}
			number := uint64(3)
			if i == 0 {
				number = 14
			}
			s.is(check, api.Response{Number: number})
			total += min(number, steps-total)
		}
		s.is(write("m", "let b = 1"), version(2))
		if total == steps {
			s.is(check, code(api.ErrQuota))
		}
	}
}

func TestLongAnswers(t *testing.T) {
	q := api.Quota{Files: 64, Bytes: 1 << 20, Sessions: 1, Ttl: 10, Steps: 1 << 40}
	s := newScript(t, 2, q)
	s.is(write("a", strings.Repeat("let a=q ", 512)), version(1))
	s.is(write("b", strings.Repeat("let a=q ", 512)), version(1))
	s.is(write("c", strings.Repeat("let a=q ", 512)), version(1))
	cost := uint64(4096 + 1 + 512)
	s.is(check, api.Response{Code: api.ErrLong, Number: 2 + 3 + 3*cost})
	s.is(check, api.Response{Code: api.ErrLong, Number: 2 + 3})
	s.is(show("a", "a"), api.Response{Text: "any"})
}

// TestLongestAnswer: one of just as many bytes as a frame may have is told.
func TestLongestAnswer(t *testing.T) {
	for more, want := range []api.Errno{api.OK, api.ErrLong} {
		s := newScript(t, 0, api.Quota{Files: 64, Sessions: 1, Ttl: 10})
		ahead := strings.Repeat(strings.Repeat("s", 16)+"/", 7)
		for i := range 63 {
			s.ask(write(ahead+fmt.Sprintf("%08d", i), "")) // 127 bytes, and one that says so
		}
		s.ask(write(ahead+strings.Repeat("x", 2+more), ""))
		s.ask(list)
		if a := s.last(); a.Code != want || (len(a.Paths) == 64) != (want == api.OK) {
			t.Errorf("%d more: %v, %d paths", more, a.Code, len(a.Paths))
		}
	}
}

func TestNobody(t *testing.T) {
	var e []api.Event
	for conn := -8; conn < 50; conn++ {
		e = append(e, api.Event{Kind: api.EvBytes, A: conn, Data: "\x00\x01a"})
	}
	for _, c := range []struct {
		tenant int
		q      api.Quota
		is     bool
	}{{0, small, true}, {0, api.Quota{}, true}, {-1, small, false}, {8, small, false}, {math.MinInt, small, false}, {math.MaxInt, small, false}, {0, api.Quota{Files: 65}, false}, {0, api.Quota{Bytes: -1}, false}, {0, api.Quota{Sessions: 65}, false}} {
		if got := model.Run(c.tenant, e, c.q); (got != [api.MaxConns]string{}) != c.is {
			t.Errorf("%v: %q", c, got)
		}
	}
	if got := model.Run(3, nil, small); got != [api.MaxConns]string{} {
		t.Errorf("%q", got)
	}
}

// TestWhatCountsForNothing: others' events, those that are none, nonces that are too long.
func TestWhatCountsForNothing(t *testing.T) {
	login := packed(t, api.Request{Kind: api.RqLogin, Text: "secret-1"})
	none := []api.Event{
		{Kind: api.EvNonce, A: 0, Data: "x"}, {Kind: api.EvNonce, A: 2, Data: "x"}, {Kind: api.EvNonce, A: -1, Data: "x"}, {Kind: api.EvNonce, A: 4, Data: "x"}, {Kind: api.EvNonce, A: 1, Data: strings.Repeat("n", 65)},
		{Kind: api.EvTick, A: 0}, {Kind: api.EvTick, A: 4}, {Kind: api.EvPick, A: 1}, {Kind: api.EvPick, A: 99}, {Kind: api.EvAsk, A: 4, Data: "list"}, {Kind: api.EvDrain, A: 1}, {Kind: 77, A: 1}, {Kind: -1, A: 4, Data: "\x00\x01a"},
		{Kind: api.EvBytes, A: 3, Data: "\x00\x01a"}, {Kind: api.EvBytes, A: 8, Data: "\x00\x01a"}, {Kind: api.EvBytes, A: 1, Data: "\x00\x01a"}, {Kind: api.EvBytes, A: math.MinInt, Data: "\x00\x01a"}, {Kind: api.EvBytes, A: math.MaxInt, Data: "\x00\x01a"}, {Kind: api.EvBytes, A: -1, Data: "\x00\x01a"},
	}
	own := []api.Event{{Kind: api.EvBytes, A: 4, Data: login[:3]}, {Kind: api.EvNonce, A: 1, Data: strings.Repeat("n", 64)}, {Kind: api.EvTick, A: 1}, {Kind: api.EvBytes, A: 4, Data: login[3:]}, {Kind: api.EvBytes, A: 7, Data: "\x00\x01a\x00\x00\x00\x01a"}, {Kind: api.EvBytes, A: 5, Data: login}}
	var mixed []api.Event
	for _, e := range own {
		mixed = append(append(mixed, none...), e)
	}
	want := model.Run(1, own, small)
	if got := model.Run(1, mixed, small); got != want {
		t.Errorf("%q, not %q", got, want)
	}
	var codes [4]int
	for i, sent := range want {
		l := answers(t, sent)
		if codes[i] = -1; len(l) == 1 {
			codes[i] = int(l[0].Code)
		}
	}
	if codes != [4]int{int(api.OK), int(api.ErrNone), -1, int(api.ErrForm)} {
		t.Errorf("%v", codes)
	}
}

// events are what comes to a tenant, of what rnd chooses.
func events(t *testing.T, rnd *rand.Rand, tenant int, token string) []api.Event {
	pick := func(l ...string) string { return l[rnd.Intn(len(l))] }
	conn := 4*tenant + rnd.Intn(4)
	request := func(r api.Request) []api.Event {
		if r.Kind != api.RqLogin {
			r.Token = token
		}
		f := packed(t, r)
		n := rnd.Intn(len(f) + 1)
		return []api.Event{{Kind: api.EvBytes, A: conn, Data: f[:n]}, {Kind: api.EvBytes, A: conn, Data: f[n:]}}
	}
	path := pick("a", "b", "c", "d", "..")
	switch rnd.Intn(20) {
	case 0:
		return []api.Event{{Kind: api.EvTick, A: tenant}}
	case 1:
		return []api.Event{{Kind: api.EvNonce, A: tenant, Data: pick("n", "", strings.Repeat("n", 65))}}
	case 2:
		return request(api.Request{Kind: api.RqLogin, Text: pick(server.Secret(tenant), server.Secret(tenant), "x")})
	case 3:
		return []api.Event{{Kind: api.EvBytes, A: conn, Data: pick("\x00\x01a", "\x00\x02\x01\x01", "\x00\x04\x01\x00\x00\x00")}}
	case 4:
		return request(list)
	case 5:
		return request(rename(path, pick("a", "b", "c")))
	case 6:
		return request(show(path, pick("x", "f")))
	case 7:
		return request(read(path))
	case 8:
		return request(remove(path))
	case 9:
		if rnd.Intn(5) == 0 {
			return request(logout)
		}
		return request(check)
	case 10, 11, 12, 13:
		return request(check)
	}
	text := pick(`import "b" as u let x = u.x`, `import "a" as u let x: int = u.x`, `import "c" as u import "d" as v fun f(a: u.T): v.T = roll v.T(unroll(a))`, `type T = {x: int | nil} let x = roll T({x = 1})`, "let x = 1", `let x = ""`, "let", "", "fun f(x) = if x then f else f == q")
	return request(write(path, text))
}

// TestServerIsRight: what a tenant among others is sent is a beginning of what the model says, whatever is picked and remembered; all of it, when none waits.
func TestServerIsRight(t *testing.T) {
	for seed := range 30 {
		rnd := rand.New(rand.NewSource(int64(seed)))
		q := api.Quota{Files: 1 + rnd.Intn(4), Bytes: 150 + rnd.Intn(200), Sessions: 1 + rnd.Intn(3), Ttl: uint64(5 + rnd.Intn(30)), Steps: uint64(rnd.Intn(20000))}
		tenants := 1 + rnd.Intn(3)
		s := server.New(tenants, rnd.Intn(6), rnd.Intn(6), q)
		var all []api.Event
		tokens := make([]string, tenants)
		for i := range tenants {
			all = append(all, api.Event{Kind: api.EvNonce, A: i, Data: "first"}, api.Event{Kind: api.EvBytes, A: 4 * i, Data: packed(t, api.Request{Kind: api.RqLogin, Text: server.Secret(i)})})
		}
		for _, e := range all {
			s.Do(e)
		}
		for i := range tokens {
			tokens[i] = sha.Hex(mac.Mac(server.Secret(i), "first\x00\x00\x00\x00\x00\x00\x00\x01"))
		}
		for round := range 150 {
			i := rnd.Intn(tenants)
			for _, e := range events(t, rnd, i, tokens[i]) {
				all = append(all, e)
				s.Do(e)
			}
			for range rnd.Intn(40) {
				s.Do(api.Event{Kind: api.EvPick, A: rnd.Intn(tenants)})
			}
			if round == 149 {
				s.Drain()
			}
			if round%10 != 9 {
				continue
			}
			for i := range tenants {
				want := model.Run(i, all, q)
				for c, x := range want {
					got := s.Out(4*i + c)
					if !strings.HasPrefix(x, got) || round == 149 && x != got {
						t.Fatalf("seed %d, on %d: %v, not %v", seed, 4*i+c, answers(t, got), answers(t, x))
					}
					for _, r := range answers(t, x) {
						if len(r.Text) == 64 {
							tokens[i] = r.Text
						}
					}
				}
			}
		}
	}
}

// TestMoreEvents: behind more events a connection was answered what it was behind fewer, and maybe more.
func TestMoreEvents(t *testing.T) {
	rnd := rand.New(rand.NewSource(1))
	s := newScript(t, 4, small)
	for range 60 {
		s.events = append(s.events, events(t, rnd, 1, s.token)...)
	}
	before := [api.MaxConns]string{}
	for n := range len(s.events) + 1 {
		now := model.Run(1, s.events[:n], small)
		for i := range now {
			if !strings.HasPrefix(now[i], before[i]) {
				t.Fatalf("behind %d events", n)
			}
		}
		before = now
	}
}
