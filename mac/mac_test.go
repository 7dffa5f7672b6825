package mac_test

import (
	"crypto/hmac"
	"crypto/sha256"
	"math/rand"
	"strings"
	"testing"

	"lodger/mac"
	"lodger/sha"
)

func TestKnownMarks(t *testing.T) {
	for _, c := range []struct{ key, text, want string }{
		{"Jefe", "what do ya want for nothing?", "5bdcc146bf60754e6a042426089575c75a003f089d2739839dec58b964ec3843"},
		{strings.Repeat("\x0b", 20), "Hi There", "b0344c61d8db38535ca8afceaf0bf12b881dc200c9833da726e9376c2e32cff7"},
		{strings.Repeat("\xaa", 131), "Test Using Larger Than Block-Size Key - Hash Key First", "60e431591ee0b67f0d8a26aacbf5b77f8e0bc6213728c5140546040f0ee37f54"},
	} {
		if got := sha.Hex(mac.Mac(c.key, c.text)); got != c.want {
			t.Errorf("%q: %s", c.key, got)
		}
	}
}

func TestAllKeys(t *testing.T) {
	rnd := rand.New(rand.NewSource(1))
	for n := range 140 {
		key, text := make([]byte, n), make([]byte, rnd.Intn(200))
		rnd.Read(key)
		rnd.Read(text)
		h := hmac.New(sha256.New, key)
		h.Write(text)
		if got := mac.Mac(string(key), string(text)); string(got[:]) != string(h.Sum(nil)) {
			t.Errorf("a key of %d bytes", n)
		}
	}
}

// TestKeysThatDoTheSame: a long key does as its sum does; zeros behind a shorter one change nothing.
func TestKeysThatDoTheSame(t *testing.T) {
	long := strings.Repeat("k", 65)
	sum := sha.Sum(long)
	if mac.Mac(long, "s") != mac.Mac(string(sum[:]), "s") {
		t.Error("a key of 65 bytes")
	}
	whole := strings.Repeat("k", 64)
	sum = sha.Sum(whole)
	if mac.Mac(whole, "s") == mac.Mac(string(sum[:]), "s") {
		t.Error("a key of 64 bytes")
	}
	if mac.Mac("k", "s") != mac.Mac("k"+strings.Repeat("\x00", 63), "s") {
		t.Error("zeros behind a key")
	}
	if mac.Mac("k", "s") == mac.Mac("\x00k", "s") {
		t.Error("zeros ahead of a key")
	}
}

func TestSame(t *testing.T) {
	for _, c := range []struct {
		a, b string
		want bool
	}{
		{"ab", "ab", true}, {"ab", "ac", false}, {"a", "ab", false}, {"ab", "a", false}, {"", "", true}, {"", "a", false},
		{"ab", "bb", false}, {"\x00", "", false}, {"ab", "ba", false}, {"\x80", "\x00", false}, {"\x01\x01", "\x02\x02", false},
	} {
		if mac.Same(c.a, c.b) != c.want {
			t.Errorf("Same(%q, %q)", c.a, c.b)
		}
	}
	long := strings.Repeat("x", 64)
	for i := range long {
		if other := long[:i] + "y" + long[i+1:]; mac.Same(long, other) || mac.Same(other, long) {
			t.Errorf("unlike at %d", i)
		}
	}
}
