package desk

import (
	"strings"
	"testing"

	"lodger/api"
	"lodger/script"
)

// began is a desk to which a script's events came, but for the last draining.
func began(t *testing.T, text string) *desk {
	t.Helper()
	s, err := script.Parse(strings.ReplaceAll(text, "/", "\n"))
	if err != nil {
		t.Fatal(err)
	}
	d := newDesk(s)
	for _, e := range s.Events {
		switch e.Kind {
		case api.EvPick:
			d.pick(e)
		case api.EvDrain:
			d.drainNow(e)
		case api.EvAsk:
			d.ask(e)
		case api.EvTick:
			d.tick(e)
		default:
			d.handed("came")(e)
		}
	}
	return d
}

const oneFile = `tenants 1/capacity 1/nonce 0 "n"/ask 0 login/ask 0 write "a" "let x = 1"/ask 0 check/drain`

func TestPicksAndDrains(t *testing.T) {
	d := began(t, `bytes 0 000100000101/bytes 1 000102/pick 0`)
	if n := d.server.Waits(0); n != 2 || len(d.connections[0].answers) != 0 {
		t.Errorf("%d wait", n)
	}
	d.drainNow(api.Event{})
	if n := d.server.Waits(0); n != 0 || len(d.connections[0].answers) != 2 || len(d.connections[1].answers) != 1 {
		t.Errorf("%d wait", n)
	}
	d.drain()
	if len(d.connections[0].answers) != 2 {
		t.Error("what was read was read again")
	}
}

// TestModelWrong: what was sent is held against the model, connection by connection, of each tenant.
func TestModelWrong(t *testing.T) {
	d := began(t, oneFile)
	if !d.modelRight() || rightIf(true) != "right" || rightIf(false) != "wrong" {
		t.Error("not right")
	}
	d.came = d.came[:len(d.came)-1]
	if d.modelRight() {
		t.Error("an event is missing, and all is right")
	}
	d = began(t, `bytes 7 0001ff/drain`)
	d.came[0].A = 6
	if d.modelRight() {
		t.Error("an answer came on another connection, and all is right")
	}
}

// TestBoundsWrong: each of the bounds is looked at.
func TestBoundsWrong(t *testing.T) {
	for i, change := range []func(s *script.Script){
		func(s *script.Script) {},
		func(s *script.Script) { s.Capacity = 0 },
		func(s *script.Script) { s.Quota.Files = 0 },
		func(s *script.Script) { s.Quota.Bytes = 8 },
		func(s *script.Script) { s.Quota.Sessions = 0 },
		func(s *script.Script) { s.Quota.Steps = 13 },
	} {
		d := began(t, oneFile)
		change(&d.script)
		if d.boundsRight() != (i == 0) {
			t.Errorf("bound %d", i)
		}
		d.script.Capacity, d.script.Quota = 1, api.Quota{Files: 1, Bytes: 9, Sessions: 1, Steps: 14}
		if !d.boundsRight() {
			t.Error("just as much as may be is right")
		}
	}
}
