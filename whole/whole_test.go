package whole_test

import (
	"fmt"
	"math/rand"
	"slices"
	"strings"
	"testing"

	"lodger/api"
	"lodger/sub"
	"lodger/ty"
	"lodger/unit"
	"lodger/whole"
)

// files are those of lines: a path, a colon, and a text.
func files(lines ...string) []api.File {
	var l []api.File
	for _, x := range lines {
		path, text, _ := strings.Cut(x, ": ")
		l = append(l, api.File{Path: path, Text: text, Version: 1})
	}
	return l
}

func written(l []api.Diag) string {
	var out []string
	for _, d := range l {
		out = append(out, fmt.Sprint(d.Path, " ", d.At, " ", d.Code))
	}
	return strings.Join(out, ", ")
}

func values(l []api.Summary) string {
	var out []string
	for _, s := range l {
		x := s.Path
		if s.Broken {
			x += " broken"
		}
		for _, v := range s.Values {
			x += " " + v.Name + ": " + ty.Text(v.T)
		}
		for _, v := range s.Types {
			x += " type " + v.Name + ": " + ty.Text(v.T)
		}
		out = append(out, x)
	}
	return strings.Join(out, "; ")
}

func TestCheck(t *testing.T) {
	for _, c := range []struct {
		files      []api.File
		want, sums string
	}{
		{nil, "", ""},
		{files(`a: import "b" as u let x: int = u.y`, `b: let y = "s"`), "a 30 10", "a x: int; b y: str"},
		{files(`b: let y = "s"`, `a: import "b" as u let x: int = u.y`), "a 30 10", "a x: int; b y: str"},
		{files(`a: import "b" as u`, `b: import "a" as u let z = q`, `c: import "a" as u let z = u.w`), "a 0 2, b 0 2", "a broken; b broken; c z: any"},
		{files(`a: import "d" as u`, `b: let`), "a 0 3, b 3 1", "a; b broken"},
		{files(`a: import "b" as u let x = u.y`, `b: let`), "b 3 1", "a x: any; b broken"},
		{files(`a: import "a" as u let x = 1`), "a 0 2", "a broken"},
		{files(`a: import "b/../a" as u`), "a 0 2", "a broken"},
		{files(`a: import "x/../b" as u let x = u.y + ""`, `b: let y = 1`, `a: let never = z`, `b: let y = z`), "a 35 10", "a x: int; b y: int"},
		{files(`z: let x = q`, `b: let x = q let x = p`, `a/b: let x: int = ""`), "a/b 13 10, b 8 6, b 10 4, b 18 6, z 8 6", "a/b x: int; b x: any; z x: any"},
		{files(`a: import "b" as u type T = u.T let x = unroll(unroll(u.z))`, `b: import "c" as u type T = u.T let z = roll T(u.z)`, `c: type T = int let z = roll T(1)`), "a 37 11", "a x: any type T: b.T; b z: b.T type T: c.T; c z: c.T type T: int"},
		{files(`A b: import "b" as u let x: int = u.y`, `b: let y = ""`), "A b 30 10", "A b x: int; b y: str"},
		{files(`b: import "A" as u`, `A: let y = 1`), "b 0 3", "A y: int; b"},
	} {
		got, cost := whole.Check(c.files)
		if written(got) != c.want {
			t.Errorf("%v: %s", c.files, written(got))
		}
		if s := values(whole.Sums(c.files)); s != c.sums {
			t.Errorf("%v: %s", c.files, s)
		}
		if len(c.files) == 0 && cost != 0 {
			t.Errorf("nothing costs %d", cost)
		}
	}
}

func TestCosts(t *testing.T) {
	one := func(path, text string, imports ...api.Import) uint64 {
		return unit.Check(path, text, imports, sub.Sub).Cost
	}
	for _, c := range []struct {
		files []api.File
		want  uint64
	}{
		{files("a: let x = 1"), one("a", "let x = 1")},
		{files("a: let x = 1", "b: let"), one("a", "let x = 1") + 4},
		{files(`a: import "a" as u let x = 1`, `b: import "a" as v let y = v.x`), 1 + one("b", `import "a" as v let y = v.x`)},
		{files("a: let x = 1", "a: let x = 1"), one("a", "let x = 1")},
		{files(`a: import "b" as u let x = u.y == 1`, `b: let y = 1 == ""`), one("b", `let y = 1 == ""`) + one("a", `import "b" as u let x = u.y == 1`, api.Import{Path: "b", There: true, Sum: unit.Check("b", `let y = 1 == ""`, nil, sub.Sub).Sum})},
	} {
		if _, got := whole.Check(c.files); got != c.want {
			t.Errorf("%v: %d, not %d", c.files, got, c.want)
		}
	}
}

// some are files of what rnd chooses.
func some(rnd *rand.Rand) []api.File {
	var l []api.File
	for _, p := range strings.Fields("a b c d e") {
		l = append(l, api.File{Path: p, Text: text(rnd)})
	}
	return l[:1+rnd.Intn(5)]
}

func text(rnd *rand.Rand) string {
	pick := func(l ...string) string { return l[rnd.Intn(len(l))] }
	t := ""
	for _, alias := range []string{"u", "v"} {
		if rnd.Intn(3) > 0 {
			t += `import "` + pick("a", "b", "c", "d", "e", "x") + `" as ` + alias + " "
		}
	}
	return t + pick("let x = 1", "let x = u.x", "let x: int = v.x", `let x = ""`, "let x = q", "type T = {t: u.T} let x = 1", "let") + pick("", " fun f(a: u.T): str = v.x")
}

// reaches: does one come from a file to another one by imports?
func reaches(l []api.File, from, to string) bool {
	seen := []string{from}
	for i := 0; i < len(seen); i++ {
		for _, f := range l {
			if f.Path == seen[i] {
				for _, p := range unit.Imports(f.Text) {
					if p == to {
						return true
					}
					if !slices.Contains(seen, p) {
						seen = append(seen, p)
					}
				}
			}
		}
	}
	return false
}

// TestWhatFollows: the order of files does not matter; a file that is changed, or gone, changes what is told of it, and of those that lead to it, alone; who imports itself is told so, and nothing else.
func TestWhatFollows(t *testing.T) {
	rnd := rand.New(rand.NewSource(1))
	for range 1500 {
		l := some(rnd)
		told, cost := whole.Check(l)
		for i, d := range told {
			if i > 0 && (told[i-1].Path > d.Path || told[i-1].Path == d.Path && (told[i-1].At > d.At || told[i-1].At == d.At && told[i-1].Code >= d.Code)) {
				t.Fatalf("%v is not in order", told)
			}
		}
		mixed := slices.Clone(l)
		rnd.Shuffle(len(mixed), func(i, j int) { mixed[i], mixed[j] = mixed[j], mixed[i] })
		if again, n := whole.Check(mixed); !slices.Equal(again, told) || n != cost || values(whole.Sums(mixed)) != values(whole.Sums(l)) {
			t.Fatalf("%v: the order matters", l)
		}
		for _, f := range l {
			of := slices.DeleteFunc(slices.Clone(told), func(d api.Diag) bool { return d.Path != f.Path })
			if cyclic := reaches(l, f.Path, f.Path); cyclic != slices.Equal(of, []api.Diag{{Path: f.Path, Code: api.DgCycle}}) || !cyclic && strings.Contains(written(of), " 0 2") {
				t.Fatalf("%v: of %s is told %v", l, f.Path, of)
			}
		}
		changed := slices.Clone(l)
		i := rnd.Intn(len(l))
		changed[i].Text = text(rnd)
		if rnd.Intn(3) == 0 {
			changed = slices.Delete(changed, i, i+1)
		}
		after, _ := whole.Check(changed)
		for _, f := range changed {
			if f.Path == l[i].Path || reaches(l, f.Path, l[i].Path) || reaches(changed, f.Path, l[i].Path) {
				continue
			}
			other := func(d api.Diag) bool { return d.Path != f.Path }
			if !slices.Equal(slices.DeleteFunc(slices.Clone(told), other), slices.DeleteFunc(slices.Clone(after), other)) {
				t.Fatalf("%v, %v: what is told of %s", l, changed, f.Path)
			}
		}
	}
}
