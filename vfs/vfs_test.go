package vfs_test

import (
	"fmt"
	"maps"
	"math/rand"
	"slices"
	"strings"
	"testing"

	"lodger/api"
	"lodger/vfs"
)

func write(t *testing.T, f *vfs.Files, path, text string, version uint64, err api.Errno) {
	t.Helper()
	if v, e := f.Write(path, text); v != version || e != err {
		t.Errorf("Write(%q, %.20q): %d, %v", path, text, v, e)
	}
}

func rename(t *testing.T, f *vfs.Files, from, to string, version uint64, err api.Errno) {
	t.Helper()
	if v, e := f.Rename(from, to); v != version || e != err {
		t.Errorf("Rename(%q, %q): %d, %v", from, to, v, e)
	}
}

func read(t *testing.T, f *vfs.Files, path string, want api.File, err api.Errno) {
	t.Helper()
	if x, e := f.Read(path); x != want || e != err {
		t.Errorf("Read(%q): %v, %v", path, x, e)
	}
}

func TestExample(t *testing.T) {
	f := vfs.New(api.Quota{Files: 2, Bytes: 10})
	write(t, f, "/a/./b", "xyz", 1, api.OK)
	read(t, f, "a/b", api.File{Path: "a/b", Text: "xyz", Version: 1}, api.OK)
	read(t, f, "a//b/c/..", api.File{Path: "a/b", Text: "xyz", Version: 1}, api.OK)
	write(t, f, "a/b", "x", 2, api.OK)
	if f.Bytes() != 1 {
		t.Errorf("Bytes: %d", f.Bytes())
	}
	write(t, f, "c", "0123456789", 0, api.ErrQuota)
	write(t, f, "c", "012345678", 1, api.OK)
	write(t, f, "d", "", 0, api.ErrQuota)
	rename(t, f, "a/b", "c", 0, api.ErrTwice)
	rename(t, f, "a/b", "./e", 1, api.OK)
	read(t, f, "a/b", api.File{}, api.ErrNone)
	read(t, f, "e", api.File{Path: "e", Text: "x", Version: 1}, api.OK)
	if err := f.Delete("x/../e"); err != api.OK {
		t.Error(err)
	}
	write(t, f, "e", "", 2, api.OK)
	write(t, f, "..", "x", 0, api.ErrPath)
	if err := f.Delete("zz"); err != api.ErrNone {
		t.Error(err)
	}
	rename(t, f, "c", "..", 0, api.ErrPath)
	want := []api.File{{Path: "c", Text: "012345678", Version: 1}, {Path: "e", Version: 2}}
	if got := f.List(); !slices.Equal(got, want) || f.Bytes() != 9 {
		t.Errorf("List: %v", got)
	}
}

func TestOrderOfErrors(t *testing.T) {
	f := vfs.New(api.Quota{Files: 1, Bytes: 5000})
	long := strings.Repeat("x", api.MaxText)
	write(t, f, "A", long+"x", 0, api.ErrPath)
	write(t, f, "a", long+"x", 0, api.ErrLong)
	write(t, f, "a", long, 1, api.OK)
	write(t, f, "b", long+"x", 0, api.ErrLong)
	write(t, f, "b", "", 0, api.ErrQuota)
	rename(t, f, "..", "a", 0, api.ErrPath)
	rename(t, f, "b", "A", 0, api.ErrPath)
	rename(t, f, "b", "a", 0, api.ErrNone)
	rename(t, f, "b", "b", 0, api.ErrNone)
	rename(t, f, "a", "a", 0, api.ErrTwice)
	rename(t, f, "a", "./a", 0, api.ErrTwice)
	read(t, f, "A", api.File{}, api.ErrPath)
	read(t, f, "b", api.File{}, api.ErrNone)
	if f.Delete("A") != api.ErrPath || f.Delete("b") != api.ErrNone {
		t.Error("Delete")
	}
	if l := f.List(); len(l) != 1 || l[0] != (api.File{Path: "a", Text: long, Version: 1}) {
		t.Errorf("what was refused changed something: %d files", len(l))
	}
}

func TestVersionsRise(t *testing.T) {
	f := vfs.New(api.Quota{Files: 3, Bytes: 100})
	write(t, f, "a", "1", 1, api.OK)
	write(t, f, "a", "1", 2, api.OK)
	if f.Delete("a") != api.OK {
		t.Error("Delete")
	}
	write(t, f, "a", "2", 3, api.OK)
	write(t, f, "b", "3", 1, api.OK)
	rename(t, f, "a", "c", 1, api.OK)
	rename(t, f, "b", "a", 4, api.OK)
	rename(t, f, "c", "b", 2, api.OK)
	rename(t, f, "b", "c", 2, api.OK)
}

func TestRoom(t *testing.T) {
	f := vfs.New(api.Quota{Files: 100, Bytes: 70})
	for i := range api.MaxFiles {
		write(t, f, fmt.Sprint("f", i), "x", 1, api.OK)
	}
	write(t, f, "more", "", 0, api.ErrQuota)
	write(t, f, "f0", "1234567", 2, api.OK)
	write(t, f, "f1", "12", 0, api.ErrQuota)
	write(t, f, "f0", "12345678", 0, api.ErrQuota)
	write(t, f, "f0", "7654321", 3, api.OK)
	if f.Bytes() != 70 || len(f.List()) != api.MaxFiles {
		t.Errorf("%d bytes", f.Bytes())
	}
	rename(t, f, "f0", "more", 1, api.OK)
}

func TestNoRoom(t *testing.T) {
	for _, q := range []api.Quota{{}, {Files: 0, Bytes: 10}, {Files: -1, Bytes: 10}, {Files: 3, Bytes: -1}} {
		f := vfs.New(q)
		write(t, f, "a", "", 0, api.ErrQuota)
		if f.Bytes() != 0 || len(f.List()) != 0 {
			t.Errorf("%v: something is there", q)
		}
	}
	f := vfs.New(api.Quota{Files: 1})
	write(t, f, "a", "", 1, api.OK)
	write(t, f, "a", "x", 0, api.ErrQuota)
}

func TestCopyGoesItsOwnWay(t *testing.T) {
	f := vfs.New(api.Quota{Files: 2, Bytes: 10})
	write(t, f, "a", "1", 1, api.OK)
	write(t, f, "gone", "1", 1, api.OK)
	f.Delete("gone")
	c := f.Copy()
	write(t, c, "gone", "22", 2, api.OK)
	write(t, c, "a", "22", 2, api.OK)
	read(t, f, "a", api.File{Path: "a", Text: "1", Version: 1}, api.OK)
	read(t, f, "gone", api.File{}, api.ErrNone)
	write(t, f, "gone", "3", 2, api.OK)
	f.Delete("a")
	read(t, c, "a", api.File{Path: "a", Text: "22", Version: 2}, api.OK)
	write(t, c, "b", "", 0, api.ErrQuota)
	c.Delete("gone")
	write(t, c, "b", "123456789", 0, api.ErrQuota)
	write(t, c, "b", "12345678", 1, api.OK)
}

func TestNoFiles(t *testing.T) {
	var none *vfs.Files
	write(t, none, "a", "", 0, api.ErrNil)
	write(t, none, "..", "", 0, api.ErrNil)
	rename(t, none, "a", "b", 0, api.ErrNil)
	read(t, none, "a", api.File{}, api.ErrNil)
	if none.Delete("a") != api.ErrNil || len(none.List()) > 0 || none.Bytes() != 0 || none.Copy() != nil {
		t.Error("files that are none")
	}
}

func TestListIsNew(t *testing.T) {
	f := vfs.New(api.Quota{Files: 2, Bytes: 10})
	write(t, f, "a", "1", 1, api.OK)
	f.List()[0].Text = "changed"
	read(t, f, "a", api.File{Path: "a", Text: "1", Version: 1}, api.OK)
}

// TestAgainstPlainFiles does the same to files and to a plain list of what should be there.
func TestAgainstPlainFiles(t *testing.T) {
	rnd := rand.New(rand.NewSource(1))
	q := api.Quota{Files: 3, Bytes: 12}
	f, texts, written := vfs.New(q), map[string]string{}, map[string]uint64{}
	paths := []string{"a", "b/c", "d", "e", "f"}
	sum := func() int {
		n := 0
		for _, x := range texts {
			n += len(x)
		}
		return n
	}
	for range 5000 {
		p, o := paths[rnd.Intn(5)], paths[rnd.Intn(5)]
		old, is := texts[p]
		switch rnd.Intn(3) {
		case 0:
			text := strings.Repeat("t", rnd.Intn(8))
			if n := len(texts); sum()-len(old)+len(text) > q.Bytes || !is && n == q.Files {
				write(t, f, p, text, 0, api.ErrQuota)
				continue
			}
			texts[p] = text
			written[p]++
			write(t, f, p, text, written[p], api.OK)
		case 1:
			want := api.OK
			if !is {
				want = api.ErrNone
			}
			delete(texts, p)
			if f.Delete("./"+p) != want {
				t.Fatal("Delete")
			}
		case 2:
			if _, there := texts[o]; !is || there {
				want := api.ErrTwice
				if !is {
					want = api.ErrNone
				}
				rename(t, f, p, o, 0, want)
				continue
			}
			delete(texts, p)
			texts[o] = old
			written[o]++
			rename(t, f, p, o, written[o], api.OK)
		}
		var want []api.File
		for _, p := range slices.Sorted(maps.Keys(texts)) {
			want = append(want, api.File{Path: p, Text: texts[p]})
		}
		got := f.List()
		for i := range got {
			got[i].Version = 0
		}
		if !slices.Equal(got, want) || f.Bytes() != sum() {
			t.Fatalf("%v, not %v", got, want)
		}
	}
}
