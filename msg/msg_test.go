package msg_test

import (
	"encoding/hex"
	"math"
	"math/rand"
	"reflect"
	"slices"
	"strings"
	"testing"

	"lodger/api"
	"lodger/diag"
	"lodger/msg"
)

func unhex(t *testing.T, s string) string {
	t.Helper()
	b, err := hex.DecodeString(strings.ReplaceAll(s, " ", ""))
	if err != nil {
		t.Fatal(err)
	}
	return string(b)
}

func TestRequests(t *testing.T) {
	for _, c := range []struct {
		r    api.Request
		want string
	}{
		{api.Request{Kind: api.RqLogin, Text: "ab"}, "01 00 00 02 61 62"}, {api.Request{Kind: api.RqLogin}, "01 00 00 00"}, {api.Request{Kind: api.RqLogout, Token: "t"}, "02 01 74 00 00"},
		{api.Request{Kind: api.RqWrite, Token: "t", Path: "p", Text: "x"}, "03 01 74 01 70 01 78"}, {api.Request{Kind: api.RqDelete, Token: "t", Path: "p"}, "04 01 74 01 70 00"}, {api.Request{Kind: api.RqRename, Token: "t", Path: "p", Text: "x"}, "05 01 74 01 70 01 78"},
		{api.Request{Kind: api.RqRead, Token: "t", Path: "p"}, "06 01 74 01 70 00"}, {api.Request{Kind: api.RqList, Token: "t"}, "07 01 74 00 00"}, {api.Request{Kind: api.RqCheck, Token: "t"}, "08 01 74 00 00"}, {api.Request{Kind: api.RqShow, Token: "t", Path: "p", Text: "x"}, "09 01 74 01 70 01 78"},
	} {
		s, err := msg.Encode(c.r)
		if err != api.OK || s != unhex(t, c.want) || msg.Check(c.r) != api.OK {
			t.Errorf("%v: %x, %v", c.r, s, err)
		}
		if r, err := msg.Decode(s); err != api.OK || r != c.r {
			t.Errorf("%x: %v, %v", s, r, err)
		}
	}
}

// TestTextsOfKinds: which texts each kind has, and how long they may be.
func TestTextsOfKinds(t *testing.T) {
	has := []string{"", "x", "t", "tpx", "tp", "tpx", "tp", "t", "t", "tpx"}
	for kind := 1; kind <= api.LastRq; kind++ {
		for _, c := range []struct {
			letter string
			limit  int
			set    func(r *api.Request, s string)
		}{
			{"t", 64, func(r *api.Request, s string) { r.Token = s }},
			{"p", 200, func(r *api.Request, s string) { r.Path = s }},
			{"x", 5000, func(r *api.Request, s string) { r.Text = s }},
		} {
			for _, n := range []int{0, 1, c.limit, c.limit + 1} {
				r := api.Request{Kind: kind}
				c.set(&r, strings.Repeat("a", n))
				want := api.OK
				if n > 0 && !strings.Contains(has[kind], c.letter) {
					want = api.ErrArg
				} else if n > c.limit {
					want = api.ErrLong
				}
				s, err := msg.Encode(r)
				if msg.Check(r) != want || err != want || (s == "") != (want != api.OK) {
					t.Errorf("kind %d, %d bytes of %s: %v, %v", kind, n, c.letter, msg.Check(r), err)
				}
				if got, err := msg.Decode(s); want == api.OK && (err != api.OK || got != r) {
					t.Errorf("kind %d, %d bytes of %s: %v", kind, n, c.letter, err)
				}
			}
		}
	}
}

func TestWrongRequests(t *testing.T) {
	long := strings.Repeat("a", 5001)
	for _, c := range []struct {
		r    api.Request
		want api.Errno
	}{
		{api.Request{Kind: api.RqCheck, Path: "a"}, api.ErrArg}, {api.Request{}, api.ErrArg}, {api.Request{Kind: api.RqLogin, Text: long}, api.ErrLong}, {api.Request{Kind: api.LastRq + 1}, api.ErrArg}, {api.Request{Kind: -1}, api.ErrArg}, {api.Request{Kind: math.MinInt}, api.ErrArg}, {api.Request{Kind: math.MaxInt}, api.ErrArg},
		{api.Request{Kind: api.RqDelete, Token: long, Text: "a"}, api.ErrArg}, {api.Request{Kind: api.RqCheck, Token: long, Path: long}, api.ErrArg}, {api.Request{Kind: 0, Token: long}, api.ErrArg}, {api.Request{Kind: api.RqLogin, Token: "t", Text: "x"}, api.ErrArg},
	} {
		if s, err := msg.Encode(c.r); s != "" || err != c.want || msg.Check(c.r) != c.want {
			t.Errorf("%.30v: %.30x, %v", c.r, s, err)
		}
	}
	for _, s := range []string{
		"", "00", "01", "01 00 00", "01 00 00 02 61", "01 00 00 00 00", "00 00 00 00", "0a 00 00 00", "01 01 61 00 00", "08 01 74 01 70 00", "f1 00 00 00 00", "ff ff ff ff ff ff ff ff ff 00 00 00", "fa 01 08 f0 00 00 00", "01 00 00 f1 00", "ff 80 00 00 00 00 00 00 01 00 00 00",
		"07 41 " + strings.Repeat("61", 65) + " 00 00", "06 00 c9 " + strings.Repeat("61", 201) + " 00", "01 00 00 f9 10 99 " + strings.Repeat("61", 0x1099+2288), "02 00 00 00 ff",
	} {
		if r, err := msg.Decode(unhex(t, s)); err != api.ErrForm || r != (api.Request{}) {
			t.Errorf("%.40s: %v, %v", s, r, err)
		}
	}
}

// plain is a response whose lists are nil, where they are empty.
func plain(r api.Response) api.Response {
	if len(r.Paths) == 0 {
		r.Paths = nil
	}
	if len(r.Diags) == 0 {
		r.Diags = nil
	}
	return r
}

func TestResponses(t *testing.T) {
	for _, c := range []struct {
		r    api.Response
		want string
	}{
		{api.Response{}, "00 00 00 01 00 00"}, {api.Response{Code: api.ErrNone, Number: 300}, "05 00 00 01 00 f1 3c"}, {api.Response{Paths: []string{"a", "b"}, Diags: []api.Diag{{Path: "a", At: 2, Code: 6}}}, "00 00 02 01 61 01 62 05 01 01 61 02 06 00"},
		{api.Response{Code: api.ErrTwice, Text: "xy", Paths: []string{""}, Number: math.MaxUint64}, "0e 02 78 79 01 00 01 00 ff ff ff ff ff ff ff ff ff"},
		{api.Response{Diags: []api.Diag{{Path: "b", At: 1, Code: 1}, {Path: "a", At: 1, Code: 1}, {Path: "b", At: 1, Code: 1}, {Path: "b", Code: 99}}}, "00 00 00 09 02 01 61 01 01 01 62 01 01 00"},
	} {
		s := msg.Answer(c.r)
		if s != unhex(t, c.want) {
			t.Errorf("%v: %x", c.r, s)
		}
		want := c.r
		want.Diags = diag.Sort(want.Diags)
		if got, err := msg.Answered(s); err != api.OK || !reflect.DeepEqual(plain(got), plain(want)) {
			t.Errorf("%x: %v, %v", s, got, err)
		}
	}
	for _, code := range []api.Errno{15, -1, math.MaxInt, math.MinInt} {
		if s := msg.Answer(api.Response{Code: code}); s != "" {
			t.Errorf("code %d: %x", int(code), s)
		}
	}
	for code := api.OK; code <= api.ErrTwice; code++ {
		if got, err := msg.Answered(msg.Answer(api.Response{Code: code})); err != api.OK || got.Code != code {
			t.Errorf("code %d", int(code))
		}
	}
}

func TestWrongResponses(t *testing.T) {
	for _, s := range []string{
		"", "00", "00 00", "00 00 00", "00 00 00 01 00", "00 00 00 00 00", "00 00 00 01 00 00 00", "0f 00 00 01 00 00", "00 01 00 01 00 00", "00 00 01 01 00 00", "00 00 02 01 61 01 00 00", "00 00 00 02 00 00 00", "00 00 00 05 01 01 61 02 0e 00", "00 00 00 0a 02 01 61 02 06 01 61 02 06 00 00",
		"ff ff ff ff ff ff ff ff ff 00 00 01 00 00", "00 00 ff ff ff ff ff ff ff ff ff 01 00 00", "00 00 00 01 00 f1 00", "00 00 f1 00 01 00 00", "00 00 00 05 01 01 61 02 06",
		"00 00 00 09 02 01 62 01 01 01 61 01 01 00",
	} {
		if r, err := msg.Answered(unhex(t, s)); err != api.ErrForm || !reflect.DeepEqual(plain(r), api.Response{}) {
			t.Errorf("%s: %v, %v", s, r, err)
		}
	}
}

// TestThereAndBack: bytes that are taken are laid again.
func TestThereAndBack(t *testing.T) {
	rnd := rand.New(rand.NewSource(1))
	requests, responses := 0, 0
	for range 30000 {
		b := make([]byte, 4+rnd.Intn(6))
		for i := range b {
			b[i] = byte(rnd.Intn(4))
		}
		if rnd.Intn(2) == 0 {
			b[0], b[len(b)-1] = byte(rnd.Intn(11)), 0
		}
		s := string(b)
		if r, err := msg.Decode(s); err == api.OK {
			requests++
			if again, err := msg.Encode(r); err != api.OK || again != s {
				t.Fatalf("%x is laid as %x", s, again)
			}
		}
		if r, err := msg.Answered(s); err == api.OK {
			responses++
			if again := msg.Answer(r); again != s || !slices.Equal(r.Diags, diag.Sort(r.Diags)) {
				t.Fatalf("%x is laid as %x", s, again)
			}
		}
	}
	if requests < 50 || responses < 50 {
		t.Errorf("%d requests, %d responses", requests, responses)
	}
}
