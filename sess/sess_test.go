package sess_test

import (
	"math"
	"math/rand"
	"slices"
	"strings"
	"testing"

	"lodger/api"
	"lodger/mac"
	"lodger/sess"
	"lodger/sha"
)

func login(t *testing.T, s *sess.Sessions, nonce string, now uint64) string {
	t.Helper()
	token, err := s.Login("s", nonce, now)
	if err != api.OK || len(token) != 64 {
		t.Fatalf("Login at %d: %q, %v", now, token, err)
	}
	return token
}

func refused(t *testing.T, s *sess.Sessions, secret string, now uint64, want api.Errno) {
	t.Helper()
	if token, err := s.Login(secret, "n", now); token != "" || err != want {
		t.Errorf("Login at %d: %q, %v", now, token, err)
	}
}

func use(t *testing.T, s *sess.Sessions, token string, now uint64, want api.Errno) {
	t.Helper()
	if err := s.Use(token, now); err != want {
		t.Errorf("Use at %d: %v, not %v", now, err, want)
	}
}

func live(t *testing.T, s *sess.Sessions, now uint64, want int) {
	t.Helper()
	if n := s.Live(now); n != want {
		t.Errorf("Live(%d): %d, not %d", now, n, want)
	}
}

func TestExample(t *testing.T) {
	s := sess.New("s", 10, 2)
	live(t, s, 0, 0)
	refused(t, s, "x", 0, api.ErrAuth)
	first, second := login(t, s, "n", 5), login(t, s, "n", 6)
	if first == second {
		t.Error("two logins, one token")
	}
	refused(t, s, "s", 7, api.ErrFull)
	use(t, s, first, 14, api.OK)
	use(t, s, first, 15, api.ErrAuth)
	use(t, s, second, 15, api.OK)
	live(t, s, 15, 1)
	live(t, s, 16, 0)
	if s.Logout(second, 15) != api.OK || s.Logout(second, 15) != api.ErrAuth {
		t.Error("Logout")
	}
	live(t, s, 0, 1)
}

// TestTokens: the marks of the nonce and of the login's number; a login that is refused has none.
func TestTokens(t *testing.T) {
	s := sess.New("s", 10, 300)
	for i := 1; i < 300; i++ {
		refused(t, s, "no", 0, api.ErrAuth)
		nonce := strings.Repeat("n", i%70)
		number := string([]byte{0, 0, 0, 0, 0, 0, byte(i >> 8), byte(i)})
		if got, want := login(t, s, nonce, 1), sha.Hex(mac.Mac("s", nonce+number)); got != want {
			t.Fatalf("login %d: %s, not %s", i, got, want)
		}
	}
	full := sess.New("s", 10, 1)
	login(t, full, "n", 0)
	refused(t, full, "s", 0, api.ErrFull)
	if got := login(t, full, "n", 10); got != sha.Hex(mac.Mac("s", "n\x00\x00\x00\x00\x00\x00\x00\x02")) {
		t.Error("a login that found no slot was counted")
	}
}

func TestWrongSecrets(t *testing.T) {
	s := sess.New("secret-1", 10, 2)
	for _, x := range []string{"", "secret-", "secret-2", "secret-11", "Secret-1", "secret-1\x00"} {
		refused(t, s, x, 0, api.ErrAuth)
	}
	live(t, s, 0, 0)
	none := sess.New("", 10, 1)
	if token, err := none.Login("", "", 0); err != api.OK || len(token) != 64 {
		t.Error("a secret without bytes is one")
	}
}

func TestWrongTokens(t *testing.T) {
	s := sess.New("s", 10, 2)
	token := login(t, s, "n", 0)
	for _, x := range []string{"", token[:63], token + "0", strings.ToUpper(token), "0" + token[1:] + "x", strings.Repeat("0", 64), strings.Repeat("\x00", 64)} {
		use(t, s, x, 0, api.ErrAuth)
		if s.Logout(x, 0) != api.ErrAuth {
			t.Errorf("Logout(%q)", x)
		}
	}
	live(t, s, 0, 1)
}

func TestSlots(t *testing.T) {
	for _, slots := range []int{0, -1, math.MinInt} {
		s := sess.New("s", 10, slots)
		refused(t, s, "s", 0, api.ErrFull)
		refused(t, s, "x", 0, api.ErrAuth)
	}
	s := sess.New("s", 10, 2)
	first := login(t, s, "n", 0)
	login(t, s, "n", 1)
	refused(t, s, "s", 9, api.ErrFull)
	if s.Logout(first, 9) != api.OK {
		t.Error("Logout")
	}
	login(t, s, "n", 9)
	refused(t, s, "s", 10, api.ErrFull)
	login(t, s, "n", 11)
	live(t, s, 11, 2)
}

// TestThoseThatAreOverLeave: also if no slot is free all the same; a wrong secret sends nobody away.
func TestThoseThatAreOverLeave(t *testing.T) {
	s := sess.New("s", 10, 2)
	first := login(t, s, "n", 0)
	second := login(t, s, "n", 9)
	refused(t, s, "x", 15, api.ErrAuth)
	live(t, s, 0, 2)
	use(t, s, first, 5, api.OK)
	third := login(t, s, "n", 15) // the first one left
	live(t, s, 0, 2)
	use(t, s, first, 5, api.ErrAuth)
	use(t, s, second, 5, api.OK)
	use(t, s, third, 24, api.OK)
	refused(t, s, "s", 0, api.ErrFull)

	s = sess.New("s", 10, 1)
	first = login(t, s, "n", 0)
	login(t, s, "n", 10)
	live(t, s, 0, 1)
	use(t, s, first, 0, api.ErrAuth)
}

// TestGreatTimes: a session's time and the ttl may run over what a number holds.
func TestGreatTimes(t *testing.T) {
	const most = math.MaxUint64
	s := sess.New("s", most, 2)
	token := login(t, s, "n", 5)
	use(t, s, token, most, api.OK)
	use(t, s, token, 0, api.OK)
	token = login(t, s, "n", 0)
	use(t, s, token, most-1, api.OK)
	use(t, s, token, most, api.ErrAuth)

	s = sess.New("s", 0, 1)
	token = login(t, s, "n", 7)
	use(t, s, token, 7, api.ErrAuth)
	use(t, s, token, 6, api.OK)
	live(t, s, 7, 0)
	login(t, s, "n", 7)
}

func TestNoSessions(t *testing.T) {
	var none *sess.Sessions
	if token, err := none.Login("", "", 0); token != "" || err != api.ErrNil {
		t.Error("Login")
	}
	if none.Use("", 0) != api.ErrNil || none.Logout("", 0) != api.ErrNil || none.Live(0) != 0 {
		t.Error("sessions that are none")
	}
}

// TestAgainstPlainList does the same to sessions and to a list of tokens and times.
func TestAgainstPlainList(t *testing.T) {
	type one struct {
		token string
		since uint64
	}
	rnd := rand.New(rand.NewSource(1))
	const ttl, slots = 7, 3
	s := sess.New("s", ttl, slots)
	var list, all []one
	for range 5000 {
		now := uint64(rnd.Intn(30))
		over := func(x one) bool { return now >= x.since+ttl }
		alive := slices.DeleteFunc(slices.Clone(list), over)
		live(t, s, now, len(alive))
		if rnd.Intn(2) == 0 {
			list = alive
			if len(list) >= slots {
				refused(t, s, "s", now, api.ErrFull)
				continue
			}
			x := one{login(t, s, "n", now), now}
			list, all = append(list, x), append(all, x)
			continue
		}
		if len(all) == 0 {
			continue
		}
		x := all[len(all)-1-rnd.Intn(min(len(all), 6))]
		want := api.ErrAuth
		if slices.Contains(alive, x) {
			want = api.OK
		}
		use(t, s, x.token, now, want)
		if rnd.Intn(2) == 0 {
			if err := s.Logout(x.token, now); err != want {
				t.Fatalf("Logout: %v", err)
			}
			if want == api.OK {
				list = slices.DeleteFunc(list, func(y one) bool { return y == x })
			}
		}
	}
}
