package frame_test

import (
	"math/rand"
	"slices"
	"strings"
	"testing"

	"lodger/api"
	"lodger/frame"
)

func feed(t *testing.T, c *frame.Cutter, s string, want ...string) {
	t.Helper()
	if got := c.Feed(s); !slices.Equal(got, want) {
		t.Errorf("Feed(%x): %q, not %q", s, got, want)
	}
}

func TestPack(t *testing.T) {
	most := strings.Repeat("m", api.MaxFrame)
	for _, c := range []struct {
		body, want string
		err        api.Errno
	}{
		{"a", "\x00\x01a", api.OK},
		{"", "", api.ErrArg},
		{strings.Repeat("b", 255), "\x00\xff" + strings.Repeat("b", 255), api.OK},
		{strings.Repeat("c", 256), "\x01\x00" + strings.Repeat("c", 256), api.OK},
		{most, "\x20\x00" + most, api.OK},
		{most + "m", "", api.ErrLong},
	} {
		if got, err := frame.Pack(c.body); got != c.want || err != c.err {
			t.Errorf("Pack of %d bytes: %.8x, %v", len(c.body), got, err)
		}
	}
}

func TestFeed(t *testing.T) {
	c := frame.New()
	feed(t, c, "")
	feed(t, c, "\x00")
	feed(t, c, "\x01a\x00\x02b", "a")
	feed(t, c, "c", "bc")
	feed(t, c, "\x00\x01d\x00\x03efg\x00", "d", "efg")
	feed(t, c, "\x01\x00", "\x00")
	if c.Broken() {
		t.Error("broken")
	}
}

func TestBroken(t *testing.T) {
	for _, s := range []string{"\x00\x00", "\x20\x01", "\xff\xff", "\x21\x00"} {
		c := frame.New()
		feed(t, c, "\x00\x01a"+s[:1], "a")
		if c.Broken() {
			t.Errorf("%x: broken by one byte", s)
		}
		feed(t, c, s[1:]+"\x00\x01b")
		if !c.Broken() {
			t.Errorf("%x: not broken", s)
		}
		feed(t, c, "\x00\x01c")
		feed(t, c, "")
		if !c.Broken() {
			t.Errorf("%x: whole again", s)
		}
	}
	c := frame.New()
	feed(t, c, "\x00\x01a\x00\x00\x00\x01a", "a")
	if !c.Broken() {
		t.Error("not broken")
	}
}

func TestGreatest(t *testing.T) {
	body := strings.Repeat("x", api.MaxFrame)
	f, _ := frame.Pack(body)
	c := frame.New()
	feed(t, c, f[:len(f)-1])
	feed(t, c, f[len(f)-1:], body)
	if c.Broken() {
		t.Error("broken")
	}
}

func TestNone(t *testing.T) {
	var none *frame.Cutter
	feed(t, none, "\x00\x01a")
	if none.Broken() {
		t.Error("one that is none is broken")
	}
}

// TestPieces: it does not matter in which pieces a stream comes.
func TestPieces(t *testing.T) {
	rnd := rand.New(rand.NewSource(1))
	for round := range 300 {
		var bodies []string
		stream := ""
		for range rnd.Intn(8) {
			b := make([]byte, 1+rnd.Intn(600))
			rnd.Read(b)
			bodies = append(bodies, string(b))
			f, err := frame.Pack(string(b))
			if err != api.OK {
				t.Fatal(err)
			}
			stream += f
		}
		broken := round%3 == 0
		if broken {
			stream += "\x00\x00\x00\x01z"
		}
		c := frame.New()
		var got []string
		for len(stream) > 0 {
			n := min(len(stream), rnd.Intn(300))
			got = append(got, c.Feed(stream[:n])...)
			stream = stream[n:]
		}
		if !slices.Equal(got, bodies) || c.Broken() != broken {
			t.Fatalf("%d bodies came of %d", len(got), len(bodies))
		}
	}
}
