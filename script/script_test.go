package script_test

import (
	"errors"
	"math"
	"math/rand"
	"reflect"
	"strings"
	"testing"

	"lodger/api"
	"lodger/script"
)

const unsaid = "tenants 2\ncapacity 8\ntypes 64\nquota 8 4000 4 1000 1000000000000\n"

// text has line feeds in the place of /.
func text(s string) string { return strings.ReplaceAll(s, "/", "\n") }

func events(t *testing.T, source string) []api.Event {
	t.Helper()
	s, err := script.Parse(source)
	if err != nil {
		t.Fatalf("%q: %v", source, err)
	}
	return s.Events
}

func TestExample(t *testing.T) {
	s, err := script.Parse(text(`tenants 3/tick 0 # x//ask 4 write "a"  "b"`))
	want := script.Script{Tenants: 3, Capacity: 8, Types: 64, Quota: api.Quota{Files: 8, Bytes: 4000, Sessions: 4, Ttl: 1000, Steps: 1e12}, Events: []api.Event{{Kind: api.EvTick}, {Kind: api.EvAsk, A: 4, Data: `write "a" "b"`}}}
	if err != nil || !reflect.DeepEqual(s, want) {
		t.Errorf("%v, %v", s, err)
	}
	s, err = script.Parse("")
	if got, code := script.Print(s); err != nil || got != unsaid || code != api.OK {
		t.Errorf("%q, %v", got, err)
	}
	for words, want := range map[string]api.Request{"login": {Kind: api.RqLogin}, `login "x"`: {Kind: api.RqLogin, Text: "x"}, `show "m" "a"`: {Kind: api.RqShow, Path: "m", Text: "a"}} {
		if r, is := script.Ask(words); r != want || !is {
			t.Errorf("%s: %v", words, r)
		}
	}
	if r, is := script.Ask("show m a"); is || r != (api.Request{}) {
		t.Errorf("%v", r)
	}
}

func TestSettings(t *testing.T) {
	for _, c := range []struct{ source, want string }{
		{"tenants 1/capacity 0/types 0/quota 0 0 0 0 0", "tenants 1/capacity 0/types 0/quota 0 0 0 0 0/"},
		{"tenants 8/capacity 9999/types 9999/quota 64 1048576 64 999999999999999999 999999999999999999", "tenants 8/capacity 9999/types 9999/quota 64 1048576 64 999999999999999999 999999999999999999/"},
		{"quota 1 2 3 4 5/ \t # nothing/\ttypes\t 7 /tenants 4 #5", "tenants 4/capacity 8/types 7/quota 1 2 3 4 5/"},
		{"///", text(unsaid)},
	} {
		s, err := script.Parse(text(c.source))
		got, code := script.Print(s)
		if err != nil || code != api.OK || got != text(c.want) {
			t.Errorf("%s: %q, %v", c.source, got, err)
		}
	}
}

func TestEvents(t *testing.T) {
	most := strings.Repeat("0a", 4000)
	for _, c := range []struct {
		line, printed string
		want          api.Event
	}{
		{"bytes 0 00", "bytes 0 00", api.Event{Kind: api.EvBytes, Data: "\x00"}}, {"bytes 31 09afff", "bytes 31 09afff", api.Event{Kind: api.EvBytes, A: 31, Data: "\x09\xaf\xff"}}, {"bytes 1 " + most, "bytes 1 " + most, api.Event{Kind: api.EvBytes, A: 1, Data: strings.Repeat("\n", 4000)}},
		{`nonce 7 ""`, `nonce 7 ""`, api.Event{Kind: api.EvNonce, A: 7}}, {`nonce 0   "a\"\\\n` + "\t#\xff" + `"`, `nonce 0 "a\"\\\n` + "\t#\xff" + `"`, api.Event{Kind: api.EvNonce, Data: "a\"\\\n\t#\xff"}}, {`nonce 0 "` + strings.Repeat(`\n`, 64) + `" #`, `nonce 0 "` + strings.Repeat(`\n`, 64) + `"`, api.Event{}},
		{"tick 7", "tick 7", api.Event{Kind: api.EvTick, A: 7}}, {" pick 0\t", "pick 0", api.Event{Kind: api.EvPick}}, {"drain # 5", "drain", api.Event{Kind: api.EvDrain}}, {"tick 1 #x", "tick 1", api.Event{Kind: api.EvTick, A: 1}},
		{"ask 31 login", "ask 31 login", api.Event{Kind: api.EvAsk, A: 31, Data: "login"}}, {`ask 0 login  ""`, `ask 0 login ""`, api.Event{Kind: api.EvAsk, Data: `login ""`}}, {"ask 0\tlogout#", "", api.Event{}}, {"ask 0\tlogout #", "ask 0 logout", api.Event{Kind: api.EvAsk, Data: "logout"}},
		{`ask 2 rename "a b"	"\n"`, `ask 2 rename "a b" "\n"`, api.Event{Kind: api.EvAsk, A: 2, Data: `rename "a b" "\n"`}}, {`ask 2 delete "x"`, `ask 2 delete "x"`, api.Event{Kind: api.EvAsk, A: 2, Data: `delete "x"`}}, {`ask 2 read "x"`, `ask 2 read "x"`, api.Event{Kind: api.EvAsk, A: 2, Data: `read "x"`}},
		{`ask 2 list`, `ask 2 list`, api.Event{Kind: api.EvAsk, A: 2, Data: `list`}}, {`ask 2 check`, `ask 2 check`, api.Event{Kind: api.EvAsk, A: 2, Data: `check`}}, {`ask 2 show "" "#"`, `ask 2 show "" "#"`, api.Event{Kind: api.EvAsk, A: 2, Data: `show "" "#"`}},
	} {
		if c.printed == "" {
			if _, err := script.Parse(c.line); err == nil {
				t.Errorf("%s is taken", c.line)
			}
			continue
		}
		l := events(t, c.line)
		if len(l) != 1 || c.want != (api.Event{}) && l[0] != c.want {
			t.Errorf("%.60q: %.60v", c.line, l)
		}
		s, _ := script.Parse(c.line)
		if got, code := script.Print(s); code != api.OK || got != unsaid+c.printed+"\n" {
			t.Errorf("%.60q: %.200q", c.line, got)
		}
	}
}

func TestFaults(t *testing.T) {
	for _, c := range []struct {
		source string
		code   api.Errno
		at     int
	}{
		{"fly", api.ErrWord, 0}, {"tick", api.ErrForm, 0}, {"tick 8", api.ErrForm, 0}, {"/types 1/types 1", api.ErrTwice, 2}, {"drain/types 1", api.ErrForm, 1}, {"bytes 0 0", api.ErrForm, 0},
		{`fly "`, api.ErrWord, 0}, {"Tick 0", api.ErrWord, 0}, {"tick0", api.ErrWord, 0}, {"drain\r", api.ErrWord, 0}, {"//tick 0/ x", api.ErrWord, 3}, {"ask", api.ErrForm, 0}, {"\x00", api.ErrWord, 0}, {"\v", api.ErrWord, 0},
		{"tenants 0", api.ErrForm, 0}, {"tenants 9", api.ErrForm, 0}, {"tenants", api.ErrForm, 0}, {"tenants 1 1", api.ErrForm, 0}, {"tenants 01", api.ErrForm, 0}, {"tenants +1", api.ErrForm, 0}, {"tenants -1", api.ErrForm, 0}, {"tenants 1x", api.ErrForm, 0}, {`tenants "1"`, api.ErrForm, 0}, {"tenants 1#", api.ErrForm, 0},
		{"capacity 10000", api.ErrForm, 0}, {"capacity x", api.ErrForm, 0}, {"capacity :", api.ErrForm, 0}, {"types ;", api.ErrForm, 0}, {"types 1:1", api.ErrForm, 0}, {"z", api.ErrWord, 0}, {"tick z", api.ErrForm, 0}, {"bytes 0 zz", api.ErrForm, 0}, {"types 10000", api.ErrForm, 0}, {"capacity 00", api.ErrForm, 0}, {"types 0000000000000000001", api.ErrForm, 0}, {"types 99999999999999999999999", api.ErrForm, 0},
		{"quota 65 0 0 0 0", api.ErrForm, 0}, {"quota 0 1048577 0 0 0", api.ErrForm, 0}, {"quota 0 0 65 0 0", api.ErrForm, 0}, {"quota 0 0 0 1000000000000000000 0", api.ErrForm, 0}, {"quota 0 0 0 0 1000000000000000000", api.ErrForm, 0}, {"quota 0 0 0 0", api.ErrForm, 0}, {"quota 0 0 0 0 0 0", api.ErrForm, 0},
		{"tenants 1/tenants", api.ErrTwice, 1}, {"quota 1 1 1 1 1/drain/quota 1 1 1 1 1", api.ErrTwice, 2}, {"capacity 1/capacity x", api.ErrTwice, 1}, {"types 1/types 1 \"", api.ErrTwice, 1}, {"types/types", api.ErrForm, 0}, {"drain/tenants", api.ErrForm, 1},
		{"bytes 0", api.ErrForm, 0}, {"bytes 0 ", api.ErrForm, 0}, {`bytes 0 "00"`, api.ErrForm, 0}, {"bytes 32 00", api.ErrForm, 0}, {"bytes 0 0A", api.ErrForm, 0}, {"bytes 0 0g", api.ErrForm, 0}, {"bytes 0 000", api.ErrForm, 0}, {"bytes 0 00 00", api.ErrForm, 0}, {"bytes x 00", api.ErrForm, 0}, {"bytes 0 " + strings.Repeat("00", 4001), api.ErrForm, 0},
		{"nonce 8 \"\"", api.ErrForm, 0}, {"nonce 0", api.ErrForm, 0}, {"nonce 0 n", api.ErrForm, 0}, {`nonce 0 "` + strings.Repeat("n", 65) + `"`, api.ErrForm, 0}, {`nonce 0 "a" "b"`, api.ErrForm, 0}, {`nonce 0 "a`, api.ErrForm, 0}, {`nonce 0 "a"b`, api.ErrForm, 0}, {`nonce 0 "a"#`, api.ErrForm, 0}, {`nonce 0 "a""b"`, api.ErrForm, 0}, {`nonce 0 "\t"`, api.ErrForm, 0}, {`nonce 0 "\`, api.ErrForm, 0}, {`nonce 0 "\"`, api.ErrForm, 0}, {`nonce "0" "a"`, api.ErrForm, 0},
		{"tick 0 0", api.ErrForm, 0}, {"pick 8", api.ErrForm, 0}, {"pick", api.ErrForm, 0}, {"drain 0", api.ErrForm, 0}, {`drain "`, api.ErrForm, 0},
		{"ask 0", api.ErrForm, 0}, {"ask 32 list", api.ErrForm, 0}, {"ask 0 fly", api.ErrForm, 0}, {"ask list", api.ErrForm, 0}, {"ask 0 list 0", api.ErrForm, 0}, {`ask 0 "list"`, api.ErrForm, 0}, {`ask 0 write "a"`, api.ErrForm, 0}, {`ask 0 write "a" b`, api.ErrForm, 0}, {`ask 0 write "a" "b" "c"`, api.ErrForm, 0}, {`ask 0 read`, api.ErrForm, 0}, {`ask 0 login x`, api.ErrForm, 0}, {`ask 0 login "a" "b"`, api.ErrForm, 0}, {`ask 0 logout "a"`, api.ErrForm, 0}, {`ask 0 check ""`, api.ErrForm, 0}, {`ask 0 show "a"`, api.ErrForm, 0}, {`ask 0 rename "a"`, api.ErrForm, 0}, {`ask 0 delete "a" "b"`, api.ErrForm, 0},
		{`ask 0 read "` + strings.Repeat("p", 201) + `"`, api.ErrForm, 0}, {`ask 0 login "` + strings.Repeat("p", 5001) + `"`, api.ErrForm, 0}, {`ask 0 write "a" "` + strings.Repeat("p", 5001) + `"`, api.ErrForm, 0}, {`ask 0 write "` + strings.Repeat("p", 201) + `" ""`, api.ErrForm, 0},
	} {
		s, err := script.Parse(text(c.source))
		var f *api.Fault
		if !errors.As(err, &f) || *f != (api.Fault{Code: c.code, At: c.at}) || s.Tenants != 0 || s.Capacity != 0 || s.Types != 0 || s.Quota != (api.Quota{}) || len(s.Events) > 0 {
			t.Errorf("%.80q: %v, not %d at %d", c.source, err, c.code, c.at)
		}
	}
}

func TestLengths(t *testing.T) {
	for _, source := range []string{`ask 0 read "` + strings.Repeat(`\\`, 200) + `"`, `ask 0 login "` + strings.Repeat("p", 5000) + `"`, `ask 0 write "a" "` + strings.Repeat(`\"`, 5000) + `"`, `ask 0 rename "a" "` + strings.Repeat("q", 5000) + `"`} {
		if l := events(t, source); len(l) != 1 || "ask 0 "+l[0].Data != source {
			t.Errorf("%.50s", source)
		}
	}
}

func TestTooManyEvents(t *testing.T) {
	most := strings.Repeat("drain\n", api.MaxSteps)
	s, err := script.Parse(most + "# nothing\n")
	if err != nil || len(s.Events) != api.MaxSteps {
		t.Fatalf("%v", err)
	}
	if got, code := script.Print(s); code != api.OK || got != unsaid+most {
		t.Error("as many as may be")
	}
	for line, want := range map[string]api.Errno{"drain": api.ErrLong, "tick 0": api.ErrLong, `nonce 0 ""`: api.ErrLong, "ask 0 list": api.ErrLong, "bytes 0 00": api.ErrLong, "drain 1": api.ErrForm, "tick 9": api.ErrForm, "fly": api.ErrWord, "types 1": api.ErrForm} {
		_, err := script.Parse(most + "\n" + line)
		var f *api.Fault
		if !errors.As(err, &f) || *f != (api.Fault{Code: want, At: api.MaxSteps + 1}) {
			t.Errorf("%s: %v", line, err)
		}
	}
	s.Events = append(s.Events, api.Event{Kind: 99})
	s.Tenants = 0
	if got, code := script.Print(s); got != "" || code != api.ErrLong {
		t.Errorf("%v", code)
	}
}

func TestPrintRefuses(t *testing.T) {
	right := func() script.Script {
		s, _ := script.Parse("tick 0")
		return s
	}
	for i, change := range []func(s *script.Script){
		func(s *script.Script) { s.Tenants = 0 }, func(s *script.Script) { s.Tenants = 9 }, func(s *script.Script) { s.Capacity = -1 }, func(s *script.Script) { s.Capacity = 10000 }, func(s *script.Script) { s.Types = -1 }, func(s *script.Script) { s.Types = 10000 },
		func(s *script.Script) { s.Quota.Files = -1 }, func(s *script.Script) { s.Quota.Files = 65 }, func(s *script.Script) { s.Quota.Bytes = -1 }, func(s *script.Script) { s.Quota.Bytes = 1<<20 + 1 }, func(s *script.Script) { s.Quota.Sessions = -1 }, func(s *script.Script) { s.Quota.Sessions = 65 }, func(s *script.Script) { s.Quota.Ttl = 1e18 }, func(s *script.Script) { s.Quota.Steps = math.MaxUint64 }, func(s *script.Script) { *s = script.Script{} },
	} {
		s := right()
		change(&s)
		if got, code := script.Print(s); got != "" || code != api.ErrArg {
			t.Errorf("%d: %q, %v", i, got, code)
		}
	}
	for _, e := range []api.Event{
		{Kind: -1}, {Kind: api.LastDo + 1}, {Kind: api.EvTick, A: 8}, {Kind: api.EvTick, A: -1}, {Kind: api.EvTick, Data: "x"}, {Kind: api.EvPick, A: 8}, {Kind: api.EvPick, Data: "x"}, {Kind: api.EvDrain, A: 1}, {Kind: api.EvDrain, Data: "x"},
		{Kind: api.EvBytes}, {Kind: api.EvBytes, A: 32, Data: "x"}, {Kind: api.EvBytes, A: -1, Data: "x"}, {Kind: api.EvBytes, Data: strings.Repeat("x", 4001)}, {Kind: api.EvNonce, A: 8}, {Kind: api.EvNonce, A: -1}, {Kind: api.EvNonce, Data: strings.Repeat("x", 65)},
		{Kind: api.EvAsk}, {Kind: api.EvAsk, Data: "fly"}, {Kind: api.EvAsk, A: 32, Data: "list"}, {Kind: api.EvAsk, A: -1, Data: "list"}, {Kind: api.EvAsk, Data: " list"}, {Kind: api.EvAsk, Data: "list "}, {Kind: api.EvAsk, Data: "list # x"}, {Kind: api.EvAsk, Data: `write "a"  "b"`}, {Kind: api.EvAsk, Data: "read \"\n\""},
	} {
		s := right()
		s.Events = append(s.Events, e)
		if got, code := script.Print(s); got != "" || code != api.ErrArg {
			t.Errorf("%.60v: %q, %v", e, got, code)
		}
	}
}

func TestAsk(t *testing.T) {
	for words, want := range map[string]api.Request{
		`login ""`: {Kind: api.RqLogin}, "logout": {Kind: api.RqLogout}, `write "a" "b"`: {Kind: api.RqWrite, Path: "a", Text: "b"}, `delete "a"`: {Kind: api.RqDelete, Path: "a"}, `rename "a" "b"`: {Kind: api.RqRename, Path: "a", Text: "b"}, `read "a"`: {Kind: api.RqRead, Path: "a"}, "list": {Kind: api.RqList}, "check": {Kind: api.RqCheck},
		`write "\"\\\n" ""`: {Kind: api.RqWrite, Path: "\"\\\n"}, `login "` + "\t\xff\r" + `"`: {Kind: api.RqLogin, Text: "\t\xff\r"}, `read "#"`: {Kind: api.RqRead, Path: "#"},
	} {
		if r, is := script.Ask(words); r != want || !is {
			t.Errorf("%s: %v, %v", words, r, is)
		}
	}
	for _, words := range []string{"", " ", "fly", " list", "list ", "list\n", "list # x", "list x", "login x", `login "a" "b"`, `write "a"`, `write "a" "b" "c"`, `write "a"  "b"`, "write \"a\"\t\"b\"", `write "a""b"`, `read "a`, `read "a"x`, `read "\t"`, "read \"\n\"", `"list"`, "read", "show", `check ""`, "#", "LIST", `read "` + strings.Repeat("p", 201) + `"`, `show "a" "` + strings.Repeat("p", 5001) + `"`, "login\x00", `login "`, `login \"`} {
		if r, is := script.Ask(words); is || r != (api.Request{}) {
			t.Errorf("%q: %v", words, r)
		}
	}
}

// TestThereAndBack: a script that may be comes back from what is printed of it, and is printed alike.
func TestThereAndBack(t *testing.T) {
	rnd := rand.New(rand.NewSource(1))
	pick := func(l ...string) string { return l[rnd.Intn(len(l))] }
	q := func() string { return `"` + pick("", "a", `\"`, `\\`, `\n`, "#", "\t", "a b", "\xff") + `"` }
	line := func() string {
		return pick("tick 1", "pick 0", "drain", "bytes 3 00ff", "nonce 2 "+q(), "ask 9 login "+q(), "ask 9 login", "ask 0 logout", "ask 1 list # x", "ask 1 check", "ask 1 write "+q()+"  "+q(), "ask 2 read\t"+q(), "ask 2 rename "+q()+" "+q(), "ask 2 delete "+q(), "ask 2 show "+q()+" "+q(), "", " # nothing", "fly", "tick", "types 5", "bytes 3 0")
	}
	taken := 0
	for range 5000 {
		source := pick("", "tenants 5\n", "quota 1 2 3 4 5\n", "types 0\ncapacity 9\n")
		for range rnd.Intn(5) {
			source += line() + "\n"
		}
		s, err := script.Parse(source)
		if err != nil {
			continue
		}
		taken++
		printed, code := script.Print(s)
		if code != api.OK {
			t.Fatalf("%q is not printed: %v", source, code)
		}
		again, err := script.Parse(printed)
		if err != nil || !reflect.DeepEqual(again, s) {
			t.Fatalf("%q: %v, %v", printed, again, err)
		}
		if twice, _ := script.Print(again); twice != printed {
			t.Fatalf("%q is printed as %q", printed, twice)
		}
	}
	if taken < 1500 {
		t.Errorf("only %d were taken", taken)
	}
}
