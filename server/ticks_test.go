package server

import (
	"math"
	"testing"

	"lodger/api"
)

// TestLastTick looks from within: nobody waits for so many ticks.
func TestLastTick(t *testing.T) {
	s := New(2, 0, 0, api.Quota{})
	s.tenants[1].ticks = math.MaxUint64 - 1
	for _, want := range []api.Errno{api.OK, api.ErrOver, api.ErrOver} {
		if err := s.Do(api.Event{Kind: api.EvTick, A: 1}); err != want {
			t.Errorf("%v, not %v", err, want)
		}
	}
	if s.tenants[1].ticks != math.MaxUint64 || s.Do(api.Event{Kind: api.EvTick}) != api.OK {
		t.Error("the ticks ran over")
	}
}
