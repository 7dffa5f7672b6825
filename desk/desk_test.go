package desk_test

import (
	"fmt"
	"math/rand"
	"strings"
	"testing"

	"lodger/api"
	"lodger/desk"
	"lodger/mac"
	"lodger/sha"
)

// text has line feeds in the place of /.
func text(s string) string { return strings.ReplaceAll(s, "/", "\n") }

// token is that of a tenant's login, of a nonce.
func token(tenant, login int, nonce string) string {
	return sha.Hex(mac.Mac(fmt.Sprint("secret-", tenant), nonce+"\x00\x00\x00\x00\x00\x00\x00"+string([]byte{byte(login)})))
}

const right = "model right/bounds right/end/"

func TestRun(t *testing.T) {
	first := token(0, 1, "n")
	for _, c := range []struct{ script, want string }{
		{"fly", "fault 13 line 0/"}, {"tick 0/drain/types 1", "fault 4 line 2/"}, {"types 1/types 2", "fault 14 line 1/"}, {strings.Repeat("drain/", 4097), "fault 3 line 4096/"},
		{"", "tenant 0 files 0 bytes 0 live 0 total 0/tenant 1 files 0 bytes 0 live 0 total 0/" + right},
		{`tenants 1/nonce 0 "n"/pick 0/bytes 0 000107`, "nonce 0/pick/bytes 0/answer 0 4 0/tenant 0 files 0 bytes 0 live 0 total 0/" + right},
		{`tenants 1/nonce 0 "n"/ask 0 login/ask 1 write "a" "let x = y"/ask 1 check`, `nonce 0/ask 0/ask 0/ask 0/answer 0 0 0 text "` + first + `"/answer 1 0 1/answer 1 0 14 diag "a" 8 6/tenant 0 files 1 bytes 9 live 1 total 14/` + right},
		{`tenants 1/nonce 1 "n"/nonce 0 ""/tick 0/tick 1/bytes 4 00/pick 7/ask 4 login/ask 31 list/drain`, "nonce 2/nonce 0/tick 0/tick 2/bytes 2/pick/ask 2/ask 2/drain/tenant 0 files 0 bytes 0 live 0 total 0/" + right},
		{`tenants 1/ask 0 login/ask 0 list`, "ask 0/ask 0/answer 0 5 0/answer 0 8 0/tenant 0 files 0 bytes 0 live 0 total 0/" + right},
		{`tenants 1/nonce 0 "n"/ask 0 login "x"/ask 0 login ""`, "nonce 0/ask 0/ask 0/answer 0 8 0/answer 0 5 0/tenant 0 files 0 bytes 0 live 0 total 0/" + right},
		{`tenants 1/nonce 0 "n"/ask 3 login "secret-0"/ask 2 write "b" "\n\"\\"/ask 1 write "a" ""/ask 0 list/ask 1 read "b"/ask 1 rename "b" "c"/ask 1 delete "a"/ask 1 show "c" "x"/ask 2 logout/ask 2 list`,
			`nonce 0/ask 0/ask 0/ask 0/ask 0/ask 0/ask 0/ask 0/ask 0/ask 0/ask 0/answer 0 0 0 path "a" path "b"/answer 1 0 1/answer 1 0 1 text "\n\"\\"/answer 1 0 1/answer 1 0 0/answer 1 5 0/answer 2 0 1/answer 2 0 0/answer 2 8 0/answer 3 0 0 text "` + first + `"/tenant 0 files 1 bytes 3 live 0 total 0/` + right},
		{`tenants 1/quota 1 9 1 2 20/nonce 0 "n"/ask 0 login/ask 0 write "a" "let x = y"/ask 0 check/ask 0 check/ask 0 check/ask 0 check/tick 0/tick 0/ask 0 check`,
			`nonce 0/ask 0/ask 0/ask 0/ask 0/ask 0/ask 0/tick 0/tick 0/ask 0/answer 0 0 0 text "` + first + `"/answer 0 0 1/answer 0 0 14 diag "a" 8 6/answer 0 0 3 diag "a" 8 6/answer 0 0 3 diag "a" 8 6/answer 0 7 0/answer 0 8 0/tenant 0 files 1 bytes 9 live 0 total 20/` + right},
		{`nonce 1 "n"/ask 7 login/ask 4 write "m" "let a = 1\nlet b = c"/bytes 5 0000/ask 5 list/ask 4 check`,
			`nonce 0/ask 0/ask 0/bytes 0/ask 0/ask 0/answer 4 0 1/answer 4 0 25 diag "m" 18 6/answer 7 0 0 text "` + token(1, 1, "n") + `"/tenant 0 files 0 bytes 0 live 0 total 0/tenant 1 files 1 bytes 19 live 1 total 25/` + right},
	} {
		if got := desk.Run(text(c.script)); got != text(c.want) {
			t.Errorf("%.100s:\n%s\nnot\n%s", c.script, got, text(c.want))
		}
	}
}

// TestTokens: a text of 64 bytes that is answered with OK is taken for the token, of whatever connection it is.
func TestTokens(t *testing.T) {
	line := strings.Repeat("#", 64)
	got := desk.Run(text(`tenants 1/nonce 0 "n"/nonce 0 "m"/ask 0 login/ask 1 login/ask 2 list/ask 2 write "a" "` + line + `"/ask 2 read "a"/ask 2 list`))
	want := text(`answer 0 0 0 text "` + token(0, 1, "n") + `"/answer 1 0 0 text "` + token(0, 2, "m") + `"/answer 2 0 0/answer 2 0 1/answer 2 0 1 text "` + line + `"/answer 2 8 0/`)
	if !strings.Contains(got, want) || !strings.HasSuffix(got, text("live 2 total 0/"+right)) {
		t.Error(got)
	}
}

// maker makes scripts of what rnd chooses.
type maker struct{ rnd *rand.Rand }

func (m maker) pick(l ...string) string { return l[m.rnd.Intn(len(l))] }

func (m maker) module() string {
	imports := ""
	for _, alias := range []string{"u", "v"} {
		if m.rnd.Intn(2) == 0 {
			imports += `import \"` + m.pick("a", "b", "c", "x/y", "no") + `\" as ` + alias + " "
		}
	}
	return `"` + imports + m.pick("let x = 1", "let x = u.x", "let x: int = v.x", `let x = \"s\"`, "type T = {x: u.T | nil} let x = roll T({x = nil})", "fun x(a: u.T): v.T = roll v.T(unroll(a))", "let", "", "fun x(a) = if a then x else x == q", "let x = {a = u.x, b = v.x}.a") + `"`
}

func (m maker) line(tenants int) string {
	tenant := m.rnd.Intn(tenants)
	conn := 4*tenant + m.rnd.Intn(4)
	path := m.pick(`"a"`, `"b"`, `"c"`, `"./x//y"`, `".."`)
	ask := func(words ...string) string { return fmt.Sprint("ask ", conn, " ", strings.Join(words, " ")) }
	switch m.rnd.Intn(18) {
	case 0:
		return fmt.Sprint("tick ", tenant)
	case 1, 2:
		return fmt.Sprint("nonce ", tenant, ` "`, m.pick("", "n", "long nonce"), `"`)
	case 3:
		return fmt.Sprint("bytes ", conn, " ", m.pick("0001ff", "00", "01", "0004010000", "00080700000000000000"))
	case 4:
		return ask("login", m.pick("", "", `"x"`))
	case 5:
		return ask(m.pick("list", "check", "check", "logout"))
	case 6:
		return ask("read", path)
	case 7:
		return ask("delete", path)
	case 8:
		return ask("rename", path, m.pick(`"a"`, `"b"`, `"c"`))
	case 9:
		return ask("show", path, m.pick(`"x"`, `"y"`))
	case 10:
		return "drain"
	case 11, 12:
		return ask("check")
	}
	return ask("write", path, m.module())
}

// events are the lines of events, with picks and drains, if need be.
func (m maker) events(l []string, picks bool, tenants int) string {
	var out []string
	for _, x := range l {
		for picks && m.rnd.Intn(2) == 0 {
			out = append(out, fmt.Sprint("pick ", m.rnd.Intn(tenants)))
		}
		out = append(out, x)
	}
	return strings.Join(out, "\n")
}

func withoutPicks(s string) string { return strings.ReplaceAll(s, "pick\n", "") }

// TestNoLineSaysWrong, and what is told does not hang on the capacity, nor on types, nor on picks.
func TestNoLineSaysWrong(t *testing.T) {
	for seed := range 40 {
		m := maker{rand.New(rand.NewSource(int64(seed)))}
		tenants := 1 + m.rnd.Intn(8)
		var l []string
		for i := range tenants {
			l = append(l, fmt.Sprint("nonce ", i, ` "first"`), fmt.Sprint("ask ", 4*i, " login"))
		}
		for range 20 + m.rnd.Intn(150) {
			l = append(l, m.line(tenants))
		}
		quota := fmt.Sprint("quota ", m.rnd.Intn(6), " ", m.rnd.Intn(600), " ", m.rnd.Intn(4), " ", m.rnd.Intn(30), " ", m.rnd.Intn(20000))
		head := func(capacity, types int) string {
			return fmt.Sprint("tenants ", tenants, "\n", quota, "\ncapacity ", capacity, "\ntypes ", types, "\n")
		}
		want := desk.Run(head(0, 0) + m.events(l, false, tenants))
		if !strings.HasSuffix(want, text("model right/bounds right/end/")) || strings.Contains(want, "wrong") || strings.Contains(want, "fault") {
			t.Fatalf("seed %d:\n%s", seed, want)
		}
		for range 3 {
			got := desk.Run(head(m.rnd.Intn(12), m.rnd.Intn(12)) + m.events(l, true, tenants))
			if withoutPicks(got) != want {
				t.Fatalf("seed %d:\n%s\nnot\n%s", seed, got, want)
			}
		}
	}
}

// TestAnyText: whatever the text, lines come of it.
func TestAnyText(t *testing.T) {
	m := maker{rand.New(rand.NewSource(1))}
	for range 500 {
		s := ""
		for range m.rnd.Intn(5) {
			s += m.line(9) + m.pick("\n", "\n", "\n", " ", "\r\n", "\"\n")
		}
		if got := desk.Run(s); !strings.HasPrefix(got, "fault ") && !strings.HasSuffix(got, text(right)) {
			t.Fatalf("%q: %q", s, got)
		}
	}
}

// TestGreatScript: as many events as may be, of tenants that fill their quota.
func TestGreatScript(t *testing.T) {
	m := maker{rand.New(rand.NewSource(2))}
	l := []string{"tenants 8", "capacity 20", "types 200", "quota 64 100000 4 100000 1000000000"}
	for i := range 8 {
		l = append(l, fmt.Sprint("nonce ", i, ` "first"`), fmt.Sprint("ask ", 4*i, " login"))
	}
	for len(l) < api.MaxSteps+4 {
		if x := m.line(8); !strings.Contains(x, "logout") {
			l = append(l, x)
		}
	}
	got := desk.Run(strings.Join(l, "\n"))
	if !strings.HasSuffix(got, text(right)) {
		t.Errorf("%.300s", got)
	}
}
