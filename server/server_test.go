package server_test

import (
	"fmt"
	"math"
	"math/rand"
	"reflect"
	"slices"
	"strings"
	"testing"

	"lodger/api"
	"lodger/frame"
	"lodger/msg"
	"lodger/server"
)

var quota = api.Quota{Files: 3, Bytes: 300, Sessions: 2, Ttl: 20, Steps: 5000}

func made(t *testing.T, tenants, capacity, types int) *server.Server {
	t.Helper()
	s := server.New(tenants, capacity, types, quota)
	if s == nil {
		t.Fatal("no server")
	}
	return s
}

func do(t *testing.T, s *server.Server, kind, a int, data string, want api.Errno) {
	t.Helper()
	if err := s.Do(api.Event{Kind: kind, A: a, Data: data}); err != want {
		t.Errorf("event %d of %d, %.20q: %v, not %v", kind, a, data, err, want)
	}
}

// packed is the frame of a request.
func packed(t *testing.T, r api.Request) string {
	t.Helper()
	body, err := msg.Encode(r)
	if err != api.OK {
		t.Fatalf("%v: %v", r, err)
	}
	f, _ := frame.Pack(body)
	return f
}

func ask(t *testing.T, s *server.Server, conn int, r api.Request) {
	t.Helper()
	do(t, s, api.EvBytes, conn, packed(t, r), api.OK)
}

// answers are what was sent on a connection.
func answers(t *testing.T, s *server.Server, conn int) []api.Response {
	t.Helper()
	c := frame.New()
	var l []api.Response
	out := s.Out(conn)
	n := 0
	for _, body := range c.Feed(out) {
		r, err := msg.Answered(body)
		if err != api.OK {
			t.Fatalf("on %d: %x", conn, body)
		}
		n += 2 + len(body)
		l = append(l, r)
	}
	if n != len(out) {
		t.Fatalf("on %d something is left", conn)
	}
	return l
}

func codes(l []api.Response) string {
	var out []string
	for _, r := range l {
		out = append(out, fmt.Sprint(int(r.Code)))
	}
	return strings.Join(out, " ")
}

func login(tenant int) api.Request {
	return api.Request{Kind: api.RqLogin, Text: server.Secret(tenant)}
}

// session logs a tenant in: the token.
func session(t *testing.T, s *server.Server, tenant int) string {
	t.Helper()
	before := len(answers(t, s, 4*tenant))
	do(t, s, api.EvNonce, tenant, "n", api.OK)
	ask(t, s, 4*tenant, login(tenant))
	for s.Waits(tenant) > 0 {
		do(t, s, api.EvPick, tenant, "", api.OK)
	}
	r := answers(t, s, 4*tenant)[before]
	if len(r.Text) != 64 {
		t.Fatalf("%v", r)
	}
	return r.Text
}

func TestExample(t *testing.T) {
	s := made(t, 2, 0, 0)
	do(t, s, api.EvBytes, 0, "\x00\x01\xff", api.OK)
	if s.Out(0) != "" || s.Waits(0) != 1 {
		t.Error("too early")
	}
	do(t, s, api.EvPick, 0, "", api.OK)
	if got := codes(answers(t, s, 0)); got != "4" {
		t.Error(got)
	}
	do(t, s, api.EvPick, 0, "", api.ErrNone)
	s = made(t, 2, 0, 0)
	ask(t, s, 0, login(0))
	do(t, s, api.EvNonce, 0, "n", api.OK)
	ask(t, s, 0, login(0))
	for range 3 {
		do(t, s, api.EvTick, 0, "", api.OK)
	}
	do(t, s, api.EvPick, 0, "", api.OK)
	do(t, s, api.EvPick, 0, "", api.OK)
	l := answers(t, s, 0)
	if codes(l) != "5 0" || len(l[1].Text) != 64 {
		t.Errorf("%v", l)
	}
	for _, e := range []struct {
		kind, a int
		data    string
		want    api.Errno
	}{
		{api.EvBytes, 8, "\x00\x01a", api.ErrArg}, {api.EvPick, 2, "", api.ErrArg}, {api.EvNonce, 0, strings.Repeat("n", 65), api.ErrLong}, {4, 0, "", api.ErrArg},
		{api.EvBytes, -1, "", api.ErrArg}, {api.EvBytes, -4, "", api.ErrArg}, {api.EvBytes, math.MinInt, "", api.ErrArg}, {api.EvBytes, math.MaxInt, "", api.ErrArg}, {api.EvBytes, 7, "", api.OK}, {api.EvPick, -1, "", api.ErrArg}, {api.EvPick, 1, "", api.ErrNone},
		{api.EvNonce, 2, "", api.ErrArg}, {api.EvNonce, 2, strings.Repeat("n", 65), api.ErrArg}, {api.EvNonce, -1, "", api.ErrArg}, {api.EvNonce, 1, strings.Repeat("n", 64), api.OK}, {api.EvNonce, 1, "", api.OK}, {api.EvTick, 2, "", api.ErrArg}, {api.EvTick, -1, "", api.ErrArg}, {api.EvTick, 1, "", api.OK},
		{-1, 0, "", api.ErrArg}, {5, 0, "", api.ErrArg}, {math.MinInt, 0, "", api.ErrArg},
	} {
		do(t, s, e.kind, e.a, e.data, e.want)
	}
}

func TestNew(t *testing.T) {
	for _, c := range []struct {
		tenants, capacity, types int
		q                        api.Quota
		is                       bool
	}{
		{1, 0, 0, api.Quota{}, true}, {8, 5, 5, quota, true}, {0, 0, 0, quota, false}, {9, 0, 0, quota, false}, {-1, 0, 0, quota, false}, {1, -5, -5, quota, true}, {1, 0, 0, api.Quota{Files: 65}, false}, {1, 0, 0, api.Quota{Bytes: -1}, false}, {1, 0, 0, api.Quota{Sessions: 65}, false},
	} {
		s := server.New(c.tenants, c.capacity, c.types, c.q)
		if (s != nil) != c.is {
			t.Errorf("%v", c)
		}
		for i := range 9 {
			if (s.Tenant(i) != nil) != (c.is && i < c.tenants) {
				t.Errorf("%v: the tenant %d", c, i)
			}
		}
		if s.Tenant(-1) != nil || s.Cached() != 0 || s.Waits(0) != 0 || s.Drain() != 0 || s.Out(0) != "" {
			t.Errorf("%v: something came", c)
		}
	}
	for i, want := range []string{"secret-0", "secret-1", "secret-2", "secret-3", "secret-4", "secret-5", "secret-6", "secret-7", ""} {
		if got := server.Secret(i); got != want {
			t.Errorf("the secret %s", got)
		}
	}
	if server.Secret(-1) != "" || server.Secret(math.MaxInt) != "" {
		t.Error("a secret of nobody")
	}
}

func TestNone(t *testing.T) {
	var none *server.Server
	do(t, none, api.EvTick, 0, "", api.ErrNil)
	do(t, none, 77, 0, "", api.ErrNil)
	if none.Out(0) != "" || none.Waits(0) != 0 || none.Drain() != 0 || none.Cached() != 0 || none.Tenant(0) != nil {
		t.Error("a server that is none")
	}
	s := made(t, 1, 1, 1)
	for _, n := range []int{-1, 4, math.MinInt, math.MaxInt} {
		if s.Out(n) != "" || s.Waits(n) != 0 || s.Tenant(n) != nil {
			t.Errorf("%d", n)
		}
	}
}

// TestNonces: they are drawn in their order, by logins alone, when these arrive; whatever the secret, and when they are picked.
func TestNonces(t *testing.T) {
	s := made(t, 2, 1, 1)
	do(t, s, api.EvNonce, 1, "other", api.OK)
	do(t, s, api.EvNonce, 0, "a", api.OK)
	do(t, s, api.EvNonce, 0, "b", api.OK)
	do(t, s, api.EvBytes, 0, "\x00\x01\x01\x00\x04\x01\x00\x00\x05", api.OK) // bytes of none, which begin as a login does
	ask(t, s, 1, api.Request{Kind: api.RqList})
	ask(t, s, 2, api.Request{Kind: api.RqLogin, Text: "wrong"})
	ask(t, s, 3, login(0))
	ask(t, s, 0, login(0))
	do(t, s, api.EvNonce, 0, "c", api.OK)
	if n := s.Drain(); n != 6 {
		t.Errorf("%d picks", n)
	}
	for conn, want := range []string{"4 4 5", "8", "8", "0", ""} {
		if got := codes(answers(t, s, conn)); got != want {
			t.Errorf("on %d: %s, not %s", conn, got, want)
		}
	}
	// The token is that of the second nonce, and of the first login that was answered.
	other := made(t, 1, 0, 0)
	do(t, other, api.EvNonce, 0, "b", api.OK)
	ask(t, other, 3, login(0))
	other.Drain()
	if other.Out(3) != s.Out(3) {
		t.Error("another nonce was drawn")
	}
	ask(t, s, 0, login(0))
	s.Drain()
	if got := codes(answers(t, s, 0)); got != "4 4 5 0" {
		t.Error(got)
	}
}

// TestTimes: a request has the time at which its frame was whole.
func TestTimes(t *testing.T) {
	s := made(t, 2, 1, 1)
	token := session(t, s, 0)
	list := packed(t, api.Request{Kind: api.RqList, Token: token})
	do(t, s, api.EvBytes, 1, list, api.OK)
	for range 19 {
		do(t, s, api.EvTick, 0, "", api.OK)
	}
	do(t, s, api.EvBytes, 2, list+list[:10], api.OK)
	for range 30 {
		do(t, s, api.EvTick, 1, "", api.OK)
	}
	do(t, s, api.EvTick, 0, "", api.OK)
	do(t, s, api.EvBytes, 2, list[10:], api.OK)
	do(t, s, api.EvBytes, 1, list, api.OK)
	s.Drain()
	if a, b := codes(answers(t, s, 1)), codes(answers(t, s, 2)); a != "0 8" || b != "0 8" {
		t.Errorf("%s, %s", a, b)
	}
	if s.Tenant(0).Live(19) != 1 || s.Tenant(0).Live(20) != 0 {
		t.Error("the session")
	}
}

// TestPicks: a pick is a step; whoever is picked, each request of a tenant is answered behind those ahead.
func TestPicks(t *testing.T) {
	s := made(t, 2, 1, 1)
	token := session(t, s, 1)
	ask(t, s, 5, api.Request{Kind: api.RqWrite, Token: token, Path: "m", Text: "let a = 1"})
	ask(t, s, 6, api.Request{Kind: api.RqCheck, Token: token})
	ask(t, s, 7, api.Request{Kind: api.RqList, Token: token})
	if s.Waits(1) != 3 || s.Waits(0) != 0 {
		t.Errorf("%d wait", s.Waits(1))
	}
	for pick := 1; pick <= 15; pick++ {
		do(t, s, api.EvPick, 0, "", api.ErrNone)
		do(t, s, api.EvPick, 1, "", api.OK)
		want := map[bool]int{true: 2, false: 1}[pick < 14]
		if pick == 15 {
			want = 0
		}
		if s.Waits(1) != want || (s.Out(6) != "") != (pick >= 14) || (s.Out(7) != "") != (pick == 15) {
			t.Fatalf("pick %d: %d wait", pick, s.Waits(1))
		}
	}
	do(t, s, api.EvPick, 1, "", api.ErrNone)
	if r := answers(t, s, 6); len(r) != 1 || r[0].Number != 14 {
		t.Errorf("%v", r)
	}
	if s.Cached() != 1 || s.Tenant(1).Total() != 14 || len(s.Tenant(1).Files()) != 1 || len(s.Tenant(0).Files()) != 0 {
		t.Error("the state")
	}
}

// TestDrain: tenant by tenant, a pick each, till none waits.
func TestDrain(t *testing.T) {
	s := made(t, 3, 0, 0)
	for tenant := range 3 {
		token := session(t, s, tenant)
		for range tenant + 1 {
			ask(t, s, 4*tenant, api.Request{Kind: api.RqCheck, Token: token})
		}
	}
	if n := s.Drain(); n != 2*(1+2+3) {
		t.Errorf("%d picks", n)
	}
	if s.Drain() != 0 || s.Waits(2) != 0 {
		t.Error("something is left")
	}
}

// TestBrokenStreams: a connection that is broken breaks no other one.
func TestBrokenStreams(t *testing.T) {
	s := made(t, 1, 0, 0)
	do(t, s, api.EvBytes, 0, "\x00\x01a\x00\x00\x00\x01a", api.OK)
	do(t, s, api.EvBytes, 0, "\x00\x01a", api.OK)
	do(t, s, api.EvBytes, 1, "\x00\x01a", api.OK)
	if n := s.Drain(); n != 2 || codes(answers(t, s, 0)) != "4" || codes(answers(t, s, 1)) != "4" {
		t.Errorf("%d picks", n)
	}
}

// TestSharedResults: what one found out saves the other one steps, and nothing else.
func TestSharedResults(t *testing.T) {
	s := made(t, 2, 5, 5)
	var took []int
	for tenant := range 2 {
		token := session(t, s, tenant)
		ask(t, s, 4*tenant, api.Request{Kind: api.RqWrite, Token: token, Path: "m", Text: "let a = 1"})
		ask(t, s, 4*tenant, api.Request{Kind: api.RqCheck, Token: token})
		took = append(took, s.Drain())
	}
	if !slices.Equal(took, []int{14, 4}) {
		t.Errorf("%v picks", took)
	}
	a, b := answers(t, s, 0), answers(t, s, 4)
	if !reflect.DeepEqual(a[1:], b[1:]) || a[2].Number != 14 {
		t.Errorf("%v, %v", a, b)
	}
}

// events are what comes to a tenant, of what rnd chooses.
func events(t *testing.T, rnd *rand.Rand, tenant int, token string) []api.Event {
	pick := func(l ...string) string { return l[rnd.Intn(len(l))] }
	conn := 4*tenant + rnd.Intn(4)
	request := func(r api.Request) []api.Event {
		f := packed(t, r)
		n := rnd.Intn(len(f) + 1)
		return []api.Event{{Kind: api.EvBytes, A: conn, Data: f[:n]}, {Kind: api.EvBytes, A: conn, Data: f[n:]}}
	}
	path := pick("a", "b", "c", "d", "..")
	switch rnd.Intn(14) {
	case 0:
		return []api.Event{{Kind: api.EvTick, A: tenant}}
	case 1:
		return []api.Event{{Kind: api.EvNonce, A: tenant, Data: pick("n", "", strings.Repeat("n", 65))}}
	case 2:
		return request(login(tenant))
	case 3:
		return []api.Event{{Kind: api.EvBytes, A: conn, Data: pick("\x00\x01a", "\x00\x02\x01\x01", "\x00\x04\x01\x00\x00\x00")}}
	case 4:
		return request(api.Request{Kind: api.RqList, Token: token})
	case 5:
		return request(api.Request{Kind: api.RqRename, Token: token, Path: path, Text: pick("a", "b", "c")})
	case 6:
		return request(api.Request{Kind: api.RqShow, Token: token, Path: path, Text: "x"})
	case 7, 8, 9:
		return request(api.Request{Kind: api.RqCheck, Token: token})
	}
	return request(api.Request{Kind: api.RqWrite, Token: token, Path: path, Text: pick(`import "b" as u let x = u.x`, `import "a" as u let x: int = u.x`, "let x = 1", `let x = ""`, "let", "")})
}

// token is that of the last login of a tenant that was answered.
func token(t *testing.T, s *server.Server, tenant int) string {
	last := ""
	for conn := range 4 {
		for _, r := range answers(t, s, 4*tenant+conn) {
			if len(r.Text) == 64 {
				last = r.Text
			}
		}
	}
	return last
}

// TestOnesOwnEventsAlone: a tenant among others, whatever is picked, and remembered, is answered what it would be by itself, where each request is done when it arrives; or a beginning of it.
func TestOnesOwnEventsAlone(t *testing.T) {
	for seed := range 25 {
		rnd := rand.New(rand.NewSource(int64(seed)))
		capacity := rnd.Intn(6)
		s := made(t, 3, capacity, rnd.Intn(6))
		var alone []*server.Server
		for range 3 {
			alone = append(alone, made(t, 3, 0, 0))
		}
		picks, charges := make([]int, 3), make([]uint64, 3)
		for range 250 {
			tenant := rnd.Intn(3)
			for _, e := range events(t, rnd, tenant, token(t, s, tenant)) {
				if err, want := s.Do(e), alone[tenant].Do(e); err != want {
					t.Fatalf("%v: %v, not %v", e, err, want)
				}
				for alone[tenant].Waits(tenant) > 0 {
					alone[tenant].Do(api.Event{Kind: api.EvPick, A: tenant})
					if x := alone[tenant].Tenant(tenant); !x.Busy() {
						_, charge := x.Spent()
						charges[tenant] += charge
					}
				}
			}
			for range rnd.Intn(30) {
				if x := rnd.Intn(3); s.Do(api.Event{Kind: api.EvPick, A: x}) == api.OK {
					picks[x]++
					if real, charge := s.Tenant(x).Spent(); !s.Tenant(x).Busy() && real > charge {
						t.Fatalf("%d steps, the charge %d", real, charge)
					}
				}
				hold(t, s, capacity)
			}
			for conn := range 12 {
				if !strings.HasPrefix(alone[conn/4].Out(conn), s.Out(conn)) {
					t.Fatalf("seed %d: on %d was sent %v", seed, conn, answers(t, s, conn))
				}
			}
		}
		s.Drain()
		hold(t, s, capacity)
		for conn := range 12 {
			if alone[conn/4].Out(conn) != s.Out(conn) {
				t.Fatalf("seed %d: on %d was sent %v", seed, conn, answers(t, s, conn))
			}
		}
		for x := range 3 {
			if uint64(picks[x]) > charges[x] {
				t.Fatalf("%d picks, the charges %d", picks[x], charges[x])
			}
		}
	}
}

// hold looks whether all is within its bounds.
func hold(t *testing.T, s *server.Server, capacity int) {
	t.Helper()
	if s.Cached() > capacity {
		t.Fatalf("%d results are kept", s.Cached())
	}
	for i := range 3 {
		x, bytes := s.Tenant(i), 0
		for _, f := range x.Files() {
			bytes += len(f.Text)
		}
		if len(x.Files()) > quota.Files || bytes > quota.Bytes || x.Total() > quota.Steps || x.Live(0) > quota.Sessions {
			t.Fatal("above the quota")
		}
	}
}
