package lex_test

import (
	"errors"
	"math"
	"math/rand"
	"slices"
	"strings"
	"testing"

	"lodger/api"
	"lodger/lex"
)

func key(s string, at int) api.Token  { return api.Token{Kind: api.TokKey, Text: s, At: at} }
func name(s string, at int) api.Token { return api.Token{Kind: api.TokName, Text: s, At: at} }
func num(n int64, at int) api.Token   { return api.Token{Kind: api.TokInt, N: n, At: at} }
func text(s string, at int) api.Token { return api.Token{Kind: api.TokStr, Text: s, At: at} }
func sign(s string, at int) api.Token { return api.Token{Kind: api.TokSign, Text: s, At: at} }
func end(at int) api.Token            { return api.Token{Kind: api.TokEnd, At: at} }

var name24 = strings.Repeat("n", api.MaxName)

func TestLex(t *testing.T) {
	for _, c := range []struct {
		source string
		want   []api.Token
	}{
		{"", []api.Token{end(0)}},
		{" \t\n\r", []api.Token{end(4)}},
		{"let x=1..y # z", []api.Token{key("let", 0), name("x", 4), sign("=", 5), num(1, 6), sign("..", 7), name("y", 9), end(14)}},
		{`"a\"\n"`, []api.Token{text("a\"\n", 0), end(7)}},
		{"a-->b=>c<==", []api.Token{name("a", 0), sign("-", 1), sign("->", 2), name("b", 4), sign("=>", 5), name("c", 7), sign("<", 8), sign("==", 9), end(11)}},
		{"===>", []api.Token{sign("==", 0), sign("=>", 2), end(4)}},
		{"...", []api.Token{sign("..", 0), sign(".", 2), end(3)}},
		{"= : . , ( ) { } | < + - *", []api.Token{sign("=", 0), sign(":", 2), sign(".", 4), sign(",", 6), sign("(", 8), sign(")", 10), sign("{", 12),
			sign("}", 14), sign("|", 16), sign("<", 18), sign("+", 20), sign("-", 22), sign("*", 24), end(25)}},
		{"12ab", []api.Token{num(12, 0), name("ab", 2), end(4)}},
		{"_9 Z", []api.Token{name("_9", 0), name("Z", 3), end(4)}},
		{"lets fnx Int", []api.Token{name("lets", 0), name("fnx", 5), name("Int", 9), end(12)}},
		{"007 9223372036854775807", []api.Token{num(7, 0), num(math.MaxInt64, 4), end(23)}},
		{strings.Repeat("0", 40) + "1", []api.Token{num(1, 0), end(41)}},
		{name24, []api.Token{name(name24, 0), end(24)}},
		{`"" "\\" "\\\""`, []api.Token{text("", 0), text(`\`, 3), text(`\"`, 8), end(14)}},
		{`"ä€` + "\U0001F600\uFFFD\t\r\x00" + `"`, []api.Token{text("ä€\U0001F600\uFFFD\t\r\x00", 0), end(17)}},
		{"#ä\uFFFD $ \"\nx#", []api.Token{name("x", 11), end(13)}},
		{`"#"#"`, []api.Token{text("#", 0), end(5)}},
		{"a#b\n#c\nd", []api.Token{name("a", 0), name("d", 7), end(8)}},
	} {
		got, err := lex.Lex(c.source)
		if err != nil || !slices.Equal(got, c.want) {
			t.Errorf("Lex(%q): %v, %v", c.source, got, err)
		}
	}
}

func TestWrongSources(t *testing.T) {
	for _, c := range []struct {
		source string
		at     int
	}{
		{"$", 0}, {"a  !", 3}, {"9223372036854775808", 0}, {"x 99999999999999999999", 2}, {`"abc`, 0}, {`"\t"`, 1},
		{"a/b", 1}, {"a>b", 1}, {"\x00", 0}, {"a\vb", 1}, {"ä", 0}, {"a\u00a0b", 1}, {"x;y", 1}, {"a & b", 2}, {"[", 0}, {"\\", 0}, {"'", 0}, {"@", 0}, {"`", 0}, {"~", 0}, {"^", 0}, {"?", 0}, {"!=", 0},
		{name24 + "n", 0}, {"a " + name24 + "9", 2},
		{"# \xff", 2}, {"#\xe2\x82", 1}, {"# ä\x80", 4}, {"\xff", 0},
		{"\"a\xff\"", 2}, {"\"\xe2\x82\"", 1}, {"\"\xed\xa0\x80\"", 1}, {"\"\xc0\x80\"", 1}, {"\"\xf5\"", 1},
		{"\"a\nb\"", 0}, {"x \"a", 2}, {`"`, 0}, {`"a\"`, 0}, {`"a\`, 2}, {"\"a\\\n\"", 2}, {`"a\\`, 0},
		{`"\q`, 1}, {"\"\xff", 1}, {"\"a\\\xff\"", 2}, {"\"a\xff\n\"", 2}, {"\"a\n\xff\"", 0}, {`"\N"`, 1}, {`"ab\ n"`, 3}, {"\"\\\u00e4\"", 1},
		{"$ \xff", 0}, {"\"a\" \"", 4}, {"a # b\n$", 6},
	} {
		got, err := lex.Lex(c.source)
		var f *api.Fault
		if !errors.As(err, &f) || *f != (api.Fault{Code: api.ErrSyntax, At: c.at}) || len(got) > 0 {
			t.Errorf("Lex(%q): %v, %v, not at %d", c.source, got, err, c.at)
		}
	}
}

func TestReserved(t *testing.T) {
	words := strings.Fields("import as type let fun fn if then else in and or not roll unroll true false nil int bool str any")
	for _, w := range words {
		if !lex.Reserved(w) {
			t.Errorf("%s is reserved", w)
		}
		l, err := lex.Lex(w)
		if err != nil || len(l) != 2 || l[0] != key(w, 0) {
			t.Errorf("%s: %v", w, l)
		}
	}
	for _, w := range []string{"", "x", "Let", "lets", "le", " let", "string", "while", "=", "..", "0"} {
		if lex.Reserved(w) {
			t.Errorf("%q is not reserved", w)
		}
	}
}

// TestBytesThatBegin: what each byte comes to where it stands by itself.
func TestBytesThatBegin(t *testing.T) {
	for b := range 256 {
		s := string([]byte{byte(b)})
		_, err := lex.Lex(s)
		want := strings.Contains(" \t\n\r#_=:.,(){}|<+-*", s) || 'a' <= b && b <= 'z' || 'A' <= b && b <= 'Z' || '0' <= b && b <= '9'
		if (err == nil) != want {
			t.Errorf("the byte %d: %v", b, err)
		}
		if l, err := lex.Lex("a" + s); err == nil && len(l) == 2 && len(l[0].Text) == 2 != (b == '_' || 'a' <= b && b <= 'z' || 'A' <= b && b <= 'Z' || '0' <= b && b <= '9') {
			t.Errorf("the byte %d in a name", b)
		}
	}
}

// TestBlanksChangePlacesAlone puts blanks and remarks between tokens.
func TestBlanksChangePlacesAlone(t *testing.T) {
	rnd := rand.New(rand.NewSource(1))
	pieces := []string{"let", "x", "12", `"a b"`, "->", "=>", "==", "..", "=", ".", "-", "<", "(", "any", "_"}
	gaps := []string{" ", "\t", "\n", "\r\n", "# x \"\n", "  #\n "}
	for range 2000 {
		var chosen []string
		for range rnd.Intn(12) {
			chosen = append(chosen, pieces[rnd.Intn(len(pieces))])
		}
		source, at := "", []int{}
		for _, p := range chosen {
			source += gaps[rnd.Intn(len(gaps))]
			at = append(at, len(source))
			source += p
		}
		plain, err := lex.Lex(strings.Join(chosen, " "))
		got, err2 := lex.Lex(source)
		if err != nil || err2 != nil || len(got) != len(plain) || len(got) != len(chosen)+1 {
			t.Fatalf("%q: %v, %v", source, err, err2)
		}
		for i, g := range got {
			want := plain[i]
			want.At = len(source)
			if i < len(at) {
				want.At = at[i]
			}
			if g != want {
				t.Fatalf("%q: %v, not %v", source, g, want)
			}
		}
	}
}

// TestAnyBytes: every source ends in tokens that stand in it, or in a fault that does.
func TestAnyBytes(t *testing.T) {
	rnd := rand.New(rand.NewSource(2))
	some := "ab9_ \n#\"\\n.=->$\xc3\xa4\xff"
	for range 20000 {
		b := make([]byte, rnd.Intn(14))
		for i := range b {
			b[i] = some[rnd.Intn(len(some))]
		}
		l, err := lex.Lex(string(b))
		if err != nil {
			if f := err.(*api.Fault); f.At < 0 || f.At >= len(b) || len(l) > 0 {
				t.Fatalf("%q: %v", b, err)
			}
			continue
		}
		last := -1
		for _, x := range l {
			if x.At <= last || x.At > len(b) {
				t.Fatalf("%q: %v", b, l)
			}
			last = x.At
		}
		if l[len(l)-1] != end(len(b)) {
			t.Fatalf("%q: %v", b, l)
		}
	}
}
