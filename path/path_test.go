package path_test

import (
	"math/rand"
	"strings"
	"testing"

	"lodger/api"
	"lodger/path"
)

var part16 = strings.Repeat("p", api.MaxPart)

func TestClean(t *testing.T) {
	for _, c := range []struct{ text, want string }{
		{"a/b", "a/b"}, {"/a//./b/", "a/b"}, {"a/../b", "b"}, {"a/x-1/../_", "a/_"},
		{"a", "a"}, {"z", "z"}, {"0", "0"}, {"9", "9"}, {"_", "_"}, {"-", "-"}, {"az09_-", "az09_-"},
		{"a/b/../..//c", "c"}, {"./././a", "a"}, {"a/.", "a"}, {"a/", "a"},
		{part16, part16}, {part16 + "/" + part16, part16 + "/" + part16},
		{"1/2/3/4/5/6/7/8", "1/2/3/4/5/6/7/8"},
		{"1/2/3/4/5/6/7/8/9/..", "1/2/3/4/5/6/7/8"},
		{"a/b/c/d/e/f/g/h/i/j/../../k/..", "a/b/c/d/e/f/g/h"},
	} {
		if got, err := path.Clean(c.text); got != c.want || err != api.OK {
			t.Errorf("Clean(%q): %q, %v", c.text, got, err)
		}
		if !path.May(c.want) {
			t.Errorf("%q is a path", c.want)
		}
		if path.May(c.text) != (c.text == c.want) {
			t.Errorf("May(%q)", c.text)
		}
	}
}

func TestNoPaths(t *testing.T) {
	for _, s := range []string{"", "/", "..", "a/..", "A", "a b", "...", "a/../..", "../a", "/..", ".", "./.", "//", "a/...", ".a", "a.b", "Z", "a/B/c",
		"a\x00", "a\n", "ä", "\xff", "`", "{", "/:", "@", "^", "~", "a\\b", part16 + "p", "a/" + part16 + "p/b", "A/..", "a b/../c", part16 + "p/..",
		"1/2/3/4/5/6/7/8/9", "1/2/3/4/5/6/7/8/9/../10"} {
		if got, err := path.Clean(s); got != "" || err != api.ErrPath {
			t.Errorf("Clean(%q): %q, %v", s, got, err)
		}
		if path.May(s) {
			t.Errorf("May(%q)", s)
		}
	}
}

func TestMay(t *testing.T) {
	for _, c := range []struct {
		text string
		want bool
	}{{"a/b", true}, {"/a", false}, {"a/", false}, {"", false}, {"a/./b", false}, {"a//b", false}, {"a/../a", false}} {
		if path.May(c.text) != c.want {
			t.Errorf("May(%q)", c.text)
		}
	}
}

// TestAllBytes: which bytes a segment may have.
func TestAllBytes(t *testing.T) {
	for b := range 256 {
		want := strings.IndexByte("abcdefghijklmnopqrstuvwxyz0123456789_-/", byte(b)) >= 0 // a / stands between two segments
		if s := "x" + string([]byte{byte(b)}) + "x"; path.May(s) != want {
			t.Errorf("%q", s)
		}
	}
}

// TestPiecesBetween: pieces that do nothing, and a segment and .. behind it, change nothing.
func TestPiecesBetween(t *testing.T) {
	rnd := rand.New(rand.NewSource(1))
	for range 2000 {
		var parts, more []string
		for range 1 + rnd.Intn(api.MaxParts) {
			parts = append(parts, []string{"a", "b-c", "_9", part16}[rnd.Intn(4)])
		}
		for _, p := range parts {
			switch rnd.Intn(5) {
			case 0:
				more = append(more, "")
			case 1:
				more = append(more, ".")
			case 2:
				more = append(more, "x", "..")
			case 3:
				more = append(more, "x", "y", ".", "..", "..")
			}
			more = append(more, p)
		}
		want := strings.Join(parts, "/")
		if got, err := path.Clean(strings.Join(more, "/")); got != want || err != api.OK {
			t.Fatalf("Clean(%q): %q, %v", more, got, err)
		}
		if again, err := path.Clean(want); again != want || err != api.OK || !path.May(want) {
			t.Fatalf("%q is not itself", want)
		}
	}
}
