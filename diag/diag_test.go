package diag_test

import (
	"encoding/hex"
	"math"
	"math/rand"
	"slices"
	"strings"
	"testing"

	"lodger/api"
	"lodger/diag"
)

func unhex(t *testing.T, s string) string {
	t.Helper()
	b, err := hex.DecodeString(strings.ReplaceAll(s, " ", ""))
	if err != nil {
		t.Fatal(err)
	}
	return string(b)
}

func dg(path string, at, code int) api.Diag { return api.Diag{Path: path, At: at, Code: code} }

var path200 = strings.Repeat("p", 200)

func TestSort(t *testing.T) {
	l := []api.Diag{dg("b", 1, 6), dg("a", 2, 6), dg("b", 1, 5), dg("a", 2, 6)}
	if got := diag.Sort(l); !slices.Equal(got, []api.Diag{dg("a", 2, 6), dg("b", 1, 5), dg("b", 1, 6)}) {
		t.Errorf("%v", got)
	}
	if l[0] != (dg("b", 1, 6)) || l[1] != (dg("a", 2, 6)) {
		t.Error("what was handed in was changed")
	}
	l = []api.Diag{dg("a", 10, 1), dg("a", 9, 13), dg("B", 5, 1), dg("", 0, 2), dg("a/b", 0, 1), dg("a-b", 0, 1), dg("a", 9, 2), dg("\xff", 0, 1), dg("aa", 0, 1)}
	want := []api.Diag{dg("", 0, 2), dg("B", 5, 1), dg("a", 9, 2), dg("a", 9, 13), dg("a", 10, 1), dg("a-b", 0, 1), dg("a/b", 0, 1), dg("aa", 0, 1), dg("\xff", 0, 1)}
	if got := diag.Sort(l); !slices.Equal(got, want) {
		t.Errorf("%v", got)
	}
	if len(diag.Sort(nil)) != 0 {
		t.Error("none")
	}
}

func TestWhatMayBeTold(t *testing.T) {
	for _, c := range []struct {
		d   api.Diag
		may bool
	}{
		{dg("a", 0, 1), true}, {dg("a", 0, 13), true}, {dg("a", 0, 0), false}, {dg("a", 0, 14), false}, {dg("a", 0, -1), false}, {dg("a", 0, math.MaxInt), false}, {dg("a", 0, math.MinInt), false},
		{dg("a", -1, 1), false}, {dg("a", math.MinInt, 1), false}, {dg("a", math.MaxInt32, 1), true}, {dg("a", math.MaxInt32+1, 1), false}, {dg("a", math.MaxInt, 1), false},
		{dg(path200, 0, 1), true}, {dg(path200+"p", 0, 1), false}, {dg("", 0, 1), true}, {dg("any text\xff", 0, 1), true},
	} {
		got := diag.Sort([]api.Diag{c.d})
		if len(got) > 0 != c.may || c.may && got[0] != c.d {
			t.Errorf("%v: %v", c.d, got)
		}
		if s := diag.Encode([]api.Diag{c.d}); s == "\x00" == c.may {
			t.Errorf("%v: %x", c.d, s)
		}
	}
}

func TestWord(t *testing.T) {
	for i, w := range []string{"", "syntax", "cycle", "import", "twice", "type", "name", "field", "arity", "call", "wrong", "roll", "size", "equal", ""} {
		if got := diag.Word(i); got != w {
			t.Errorf("%d: %s", i, got)
		}
	}
	for _, i := range []int{-1, math.MinInt, math.MaxInt, 15} {
		if diag.Word(i) != "" {
			t.Errorf("%d has a word", i)
		}
	}
}

func TestBytes(t *testing.T) {
	for _, c := range []struct {
		l    []api.Diag
		want string
	}{
		{nil, "00"}, {[]api.Diag{dg("a", 2, 6)}, "01 01 61 02 06"}, {[]api.Diag{dg("b", 300, 1), dg("a", 2, 13), dg("b", 300, 1)}, "02 01 61 02 0d 01 62 f1 3c 01"},
		{[]api.Diag{dg("a", math.MaxInt32, 1)}, "01 01 61 fb 7f ff ff ff 01"}, {[]api.Diag{dg("", 0, 1), dg("x", 0, 0)}, "01 00 00 01"},
	} {
		s := diag.Encode(c.l)
		if s != unhex(t, c.want) {
			t.Errorf("%v: %x", c.l, s)
		}
		if got, err := diag.Decode(s); err != api.OK || !slices.Equal(got, diag.Sort(c.l)) {
			t.Errorf("%x: %v, %v", s, got, err)
		}
	}
}

func TestWrongBytes(t *testing.T) {
	for _, s := range []string{
		"", "00 00", "01 01 61 02 0e", "01 01 61 02 00", "01 01 61 02", "01 01 61", "01", "02 01 61 02 06", "01 01 61 02 06 00", "00 01 61 02 06", "f1 00", "ff ff ff ff ff ff ff ff ff", "ff ff ff ff ff ff ff ff ff 01 61 02 06",
		"02 01 61 02 06 01 61 02 06", "02 01 62 02 06 01 61 02 06", "02 01 61 03 06 01 61 02 06", "02 01 61 02 06 01 61 02 05", "01 01 61 fb 80 00 00 00 01", "01 01 61 ff ff ff ff ff ff ff ff ff 01", "01 01 61 ff 80 00 00 00 00 00 00 02 06", "01 01 61 02 ff 00 00 00 01 00 00 00 06", "01 01 61 02 fc 01 00 00 00 06",
		"01 c9 " + strings.Repeat("70", 201) + " 00 01", "01 f1 00 00 01",
	} {
		if got, err := diag.Decode(unhex(t, s)); err != api.ErrForm || len(got) > 0 {
			t.Errorf("%s: %v, %v", s, got, err)
		}
	}
}

// TestThereAndBack: two lists have the same bytes just if they are the same, sorted; bytes that are taken are laid again.
func TestThereAndBack(t *testing.T) {
	rnd := rand.New(rand.NewSource(1))
	some := func() []api.Diag {
		var l []api.Diag
		for range rnd.Intn(4) {
			l = append(l, dg([]string{"a", "b", "", path200}[rnd.Intn(4)], rnd.Intn(3), rnd.Intn(3)))
		}
		return l
	}
	taken := 0
	for range 20000 {
		a, b := some(), some()
		if (diag.Encode(a) == diag.Encode(b)) != slices.Equal(diag.Sort(a), diag.Sort(b)) {
			t.Fatalf("%v, %v", a, b)
		}
		s := diag.Encode(a)
		if got, err := diag.Decode(s); err != api.OK || !slices.Equal(got, diag.Sort(a)) {
			t.Fatalf("%v: %v, %v", a, got, err)
		}
		x := []byte(s)
		x[rnd.Intn(len(x))] = byte(rnd.Intn(5))
		if l, err := diag.Decode(string(x)); err == api.OK {
			taken++
			if diag.Encode(l) != string(x) {
				t.Fatalf("%x is laid as %x", x, diag.Encode(l))
			}
		}
	}
	if taken < 100 {
		t.Errorf("only %d were taken", taken)
	}
}
