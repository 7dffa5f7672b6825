package wire_test

import (
	"encoding/hex"
	"math/rand"
	"strings"
	"testing"

	"lodger/wire"
)

// edges are the numbers at which rows begin and end.
var edges = []uint64{0, 1, 239, 240, 241, 242, 496, 497, 2286, 2287, 2288, 2289, 67822, 67823, 67824, 67825,
	1<<24 - 1, 1 << 24, 1<<32 - 1, 1 << 32, 1<<40 - 1, 1 << 40, 1<<48 - 1, 1 << 48, 1<<56 - 1, 1 << 56, 1<<64 - 2, 1<<64 - 1}

func unhex(t *testing.T, s string) string {
	t.Helper()
	b, err := hex.DecodeString(strings.ReplaceAll(s, " ", ""))
	if err != nil {
		t.Fatal(err)
	}
	return string(b)
}

func TestPutNum(t *testing.T) {
	for _, c := range []struct {
		n    uint64
		want string
	}{
		{0, "00"}, {1, "01"}, {240, "f0"}, {241, "f1 01"}, {300, "f1 3c"}, {495, "f1 ff"}, {496, "f2 00"}, {2287, "f8 ff"},
		{2288, "f9 00 00"}, {67823, "f9 ff ff"}, {67824, "fa 01 08 f0"}, {1<<24 - 1, "fa ff ff ff"},
		{1 << 24, "fb 01 00 00 00"}, {1 << 32, "fc 01 00 00 00 00"}, {1 << 40, "fd 01 00 00 00 00 00"},
		{1 << 48, "fe 01 00 00 00 00 00 00"}, {1 << 56, "ff 01 00 00 00 00 00 00 00"}, {1<<64 - 1, "ff ff ff ff ff ff ff ff ff"},
	} {
		if got := wire.PutNum("", c.n); got != unhex(t, c.want) {
			t.Errorf("%d: %x, not %s", c.n, got, c.want)
		}
		if got := wire.PutNum("ahead", c.n); got != "ahead"+unhex(t, c.want) {
			t.Errorf("%d behind a text: %x", c.n, got)
		}
	}
}

func TestPutText(t *testing.T) {
	if got := wire.PutText("", "ab"); got != "\x02ab" {
		t.Errorf("%x", got)
	}
	if got := wire.PutText("x", ""); got != "x\x00" {
		t.Errorf("%x", got)
	}
	long := strings.Repeat("t", 300)
	if got := wire.PutText("x", long); got != "x\xf1\x3c"+long {
		t.Errorf("%x", got[:4])
	}
}

func TestNumbersComeBack(t *testing.T) {
	s := ""
	for _, n := range edges {
		s = wire.PutNum(s, n)
	}
	r := wire.NewReader(s)
	for _, n := range edges {
		if r.End() {
			t.Errorf("at an end ahead of %d", n)
		}
		if got := r.Num(); got != n || !r.OK() {
			t.Errorf("%d, not %d", got, n)
		}
	}
	if !r.End() {
		t.Error("not at its end")
	}
}

func TestWrongNumbers(t *testing.T) {
	for _, s := range []string{"", "f1", "f1 00", "f9", "f9 00", "fa 00 ff ff", "fa 01 08 ef", "fa 01 08", "fb 00 ff ff ff", "fb 01 00 00",
		"fc 00 ff ff ff ff", "fd 00 ff ff ff ff ff", "fe 00 ff ff ff ff ff ff", "ff 00 ff ff ff ff ff ff ff", "ff ff ff ff ff ff ff ff"} {
		for _, take := range []func(r *wire.Reader) bool{
			func(r *wire.Reader) bool { return r.Num() == 0 },
			func(r *wire.Reader) bool { return r.Text() == "" },
		} {
			r := wire.NewReader(unhex(t, s))
			if !take(r) || r.OK() || r.End() {
				t.Errorf("%s: not spent", s)
			}
			if r.Num() != 0 || r.Text() != "" || r.OK() || r.End() {
				t.Errorf("%s: more comes of a spent one", s)
			}
		}
	}
}

func TestWrongTexts(t *testing.T) {
	for _, s := range []string{"01", "02 61", "f1 3c 61", "ff ff ff ff ff ff ff ff ff 61", "ff 80 00 00 00 00 00 00 00"} {
		r := wire.NewReader(unhex(t, s))
		if r.Text() != "" || r.OK() || r.End() || r.Num() != 0 {
			t.Errorf("%s: not spent", s)
		}
	}
}

func TestSpentHasNothingAhead(t *testing.T) {
	r := wire.NewReader("\x02a\x01\x01")
	r.Num()
	if r.Num(); !r.OK() {
		t.Error("spent too early")
	}
	r = wire.NewReader("\xf1\x00\x05\x05")
	if r.Num() != 0 || r.Num() != 0 || r.Text() != "" || r.OK() {
		t.Error("something is ahead of a spent one")
	}
}

func TestTextsComeBack(t *testing.T) {
	texts := []string{"", "a", "\x00\xff", strings.Repeat("x", 240), strings.Repeat("y", 241), strings.Repeat("z", 70000)}
	s := ""
	for i, x := range texts {
		s = wire.PutNum(wire.PutText(s, x), uint64(i))
	}
	r := wire.NewReader(s)
	for i, x := range texts {
		if r.Text() != x || r.Num() != uint64(i) || !r.OK() {
			t.Errorf("text %d", i)
		}
	}
	if !r.End() {
		t.Error("not at its end")
	}
}

func TestEnds(t *testing.T) {
	r := wire.NewReader("")
	if !r.OK() || !r.End() {
		t.Error("nothing ahead is an end")
	}
	r = wire.NewReader("a")
	if !r.OK() || r.End() {
		t.Error("something is ahead")
	}
}

func TestNoReader(t *testing.T) {
	var r *wire.Reader
	if r.Num() != 0 || r.Text() != "" || r.OK() || r.End() {
		t.Error("a reader that is none is spent")
	}
}

func TestRowsRise(t *testing.T) {
	rnd := rand.New(rand.NewSource(1))
	for range 20000 {
		a, b := rnd.Uint64()>>rnd.Intn(64), rnd.Uint64()>>rnd.Intn(64)
		if got := strings.Compare(wire.PutNum("", a), wire.PutNum("", b)); (got < 0) != (a < b) || (got == 0) != (a == b) {
			t.Fatalf("%d and %d", a, b)
		}
		if r := wire.NewReader(wire.PutNum("", a)); r.Num() != a || !r.End() {
			t.Fatalf("%d does not come back", a)
		}
	}
	for i := 1; i < len(edges); i++ {
		if wire.PutNum("", edges[i-1]) >= wire.PutNum("", edges[i]) {
			t.Errorf("%d does not rise", edges[i])
		}
	}
}

// TestAnyBytes: what is taken, laid again, is what was there.
func TestAnyBytes(t *testing.T) {
	rnd := rand.New(rand.NewSource(2))
	for range 20000 {
		b := make([]byte, 1+rnd.Intn(10))
		rnd.Read(b)
		if rnd.Intn(2) == 0 {
			b[0] = byte(240 + rnd.Intn(16))
		}
		r := wire.NewReader(string(b))
		if n := r.Num(); r.OK() && !strings.HasPrefix(string(b), wire.PutNum("", n)) {
			t.Fatalf("%x was taken for %d", b, n)
		}
	}
}
