package sha_test

import (
	"crypto/sha256"
	"encoding/hex"
	"math/rand"
	"strings"
	"testing"

	"lodger/sha"
)

func TestKnownSums(t *testing.T) {
	for _, c := range []struct{ text, want string }{
		{"", "e3b0c44298fc1c149afbf4c8996fb92427ae41e4649b934ca495991b7852b855"},
		{"abc", "ba7816bf8f01cfea414140de5dae2223b00361a396177a9cb410ff61f20015ad"},
		{"abcdbcdecdefdefgefghfghighijhijkijkljklmklmnlmnomnopnopq", "248d6a61d20638b8e5c026930c3e6039a33ce45964ff2167f6ecedd419db06c1"},
		{strings.Repeat("a", 1000000), "cdc76e5c9914fb9281a1c7e284d73e67f1809a48a497200e046d39ccc7112cd0"},
	} {
		if got := sha.Hex(sha.Sum(c.text)); got != c.want {
			t.Errorf("%.20s: %s", c.text, got)
		}
	}
}

// TestLengths: wherever the end stands in a block.
func TestLengths(t *testing.T) {
	rnd := rand.New(rand.NewSource(1))
	for n := range 300 {
		b := make([]byte, n)
		rnd.Read(b)
		if sha.Sum(string(b)) != sha256.Sum256(b) {
			t.Errorf("%d bytes", n)
		}
	}
}

func TestHex(t *testing.T) {
	var b [32]byte
	if got := sha.Hex(b); got != strings.Repeat("0", 64) {
		t.Error(got)
	}
	rnd := rand.New(rand.NewSource(2))
	for range 200 {
		rnd.Read(b[:])
		if got := sha.Hex(b); got != hex.EncodeToString(b[:]) {
			t.Errorf("%x: %s", b, got)
		}
	}
}

// TestHexTellsApart: Hex of two is alike just if they are.
func TestHexTellsApart(t *testing.T) {
	one := sha.Sum("one")
	for i := range one {
		for bit := range 8 {
			other := one
			other[i] ^= 1 << bit
			if sha.Hex(other) == sha.Hex(one) {
				t.Errorf("byte %d, bit %d", i, bit)
			}
		}
	}
}
