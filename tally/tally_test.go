package tally_test

import (
	"math"
	"math/big"
	"math/rand"
	"testing"

	"lodger/api"
	"lodger/tally"
)

const most = math.MaxUint64

func TestAdd(t *testing.T) {
	for _, c := range []struct {
		a, b, want uint64
		err        api.Errno
	}{
		{most, 1, 0, api.ErrOver}, {1, most, 0, api.ErrOver}, {1 << 63, 1<<63 - 1, most, api.OK}, {1 << 63, 1 << 63, 0, api.ErrOver},
		{0, 0, 0, api.OK}, {most, 0, most, api.OK}, {0, most, most, api.OK}, {most, most, 0, api.ErrOver}, {3, 4, 7, api.OK},
	} {
		if got, err := tally.Add(c.a, c.b); got != c.want || err != c.err {
			t.Errorf("Add(%d, %d): %d, %v", c.a, c.b, got, err)
		}
	}
}

func TestMul(t *testing.T) {
	for _, c := range []struct {
		a, b, want uint64
		err        api.Errno
	}{
		{1 << 32, 1 << 32, 0, api.ErrOver}, {1 << 32, 1<<32 - 1, 1<<64 - 1<<32, api.OK}, {0, 5, 0, api.OK}, {5, 0, 0, api.OK}, {0, most, 0, api.OK},
		{most, 0, 0, api.OK}, {most, 1, most, api.OK}, {1, most, most, api.OK}, {most, 2, 0, api.ErrOver}, {2, most, 0, api.ErrOver},
		{1 << 63, 2, 0, api.ErrOver}, {3, most / 3, most, api.OK}, {3, most/3 + 1, 0, api.ErrOver}, {6, 7, 42, api.OK},
	} {
		if got, err := tally.Mul(c.a, c.b); got != c.want || err != c.err {
			t.Errorf("Mul(%d, %d): %d, %v", c.a, c.b, got, err)
		}
	}
}

// TestNothingRunsOver holds sums and products against numbers of any size.
func TestNothingRunsOver(t *testing.T) {
	rnd := rand.New(rand.NewSource(1))
	for range 20000 {
		a, b := rnd.Uint64()>>rnd.Intn(64), rnd.Uint64()>>rnd.Intn(64)
		x, y := new(big.Int).SetUint64(a), new(big.Int).SetUint64(b)
		for _, c := range []struct {
			of   func(a, b uint64) (uint64, api.Errno)
			want *big.Int
		}{{tally.Add, new(big.Int).Add(x, y)}, {tally.Mul, new(big.Int).Mul(x, y)}} {
			got, err := c.of(a, b)
			if c.want.IsUint64() != (err == api.OK) || err == api.OK && got != c.want.Uint64() || err != api.OK && (got != 0 || err != api.ErrOver) {
				t.Fatalf("%d and %d: %d, %v", a, b, got, err)
			}
		}
	}
}

func TestBound(t *testing.T) {
	for _, c := range []struct {
		n    int
		want uint64
	}{
		{0, 1 << 24}, {36, 64000000}, {-5, 1 << 24}, {math.MinInt, 1 << 24}, {1, 64 * 65 * 65 * 65}, {1 << 40, most}, {math.MaxInt, most},
		{1 << 19, 64 * (1<<19 + 64) * (1<<19 + 64) * (1<<19 + 64)}, {1 << 20, most},
	} {
		if got := tally.Bound(c.n); got != c.want {
			t.Errorf("Bound(%d): %d", c.n, got)
		}
	}
}

// TestBoundRises, also where it comes to the greatest number.
func TestBoundRises(t *testing.T) {
	for n := 0; n < 1<<22; n += 1 + n/9 {
		side := big.NewInt(int64(n) + 64)
		want := new(big.Int).Mul(big.NewInt(64), new(big.Int).Exp(side, big.NewInt(3), nil))
		got := tally.Bound(n)
		if want.IsUint64() && got != want.Uint64() || !want.IsUint64() && got != most {
			t.Errorf("Bound(%d): %d", n, got)
		}
		if tally.Bound(n+1) < got {
			t.Errorf("Bound(%d) falls", n+1)
		}
	}
	// The last one whose bound is not cut.
	last := 0
	for step := 1 << 30; step > 0; step /= 2 {
		if tally.Bound(last+step) < most {
			last += step
		}
	}
	side := new(big.Int).Exp(big.NewInt(int64(last)+65), big.NewInt(3), nil)
	if side.Mul(side, big.NewInt(64)).IsUint64() {
		t.Errorf("Bound(%d) is cut too early", last+1)
	}
}

func TestMay(t *testing.T) {
	for _, c := range []struct {
		q    api.Quota
		want bool
	}{
		{api.Quota{}, true},
		{api.Quota{Files: 64, Bytes: 1 << 20, Sessions: 64, Ttl: most, Steps: most}, true},
		{api.Quota{Files: 65}, false}, {api.Quota{Files: -1}, false},
		{api.Quota{Bytes: 1<<20 + 1}, false}, {api.Quota{Bytes: -1}, false},
		{api.Quota{Sessions: 65}, false}, {api.Quota{Sessions: -1}, false},
		{api.Quota{Files: math.MinInt}, false}, {api.Quota{Sessions: math.MaxInt}, false},
	} {
		if tally.May(c.q) != c.want {
			t.Errorf("May(%v)", c.q)
		}
	}
}

func TestMeter(t *testing.T) {
	m := tally.New(10)
	for _, c := range []struct {
		n     uint64
		err   api.Errno
		total uint64
	}{{0, api.OK, 0}, {7, api.OK, 7}, {4, api.ErrQuota, 7}, {most, api.ErrQuota, 7}, {most - 6, api.ErrQuota, 7}, {3, api.OK, 10}, {1, api.ErrQuota, 10}, {0, api.OK, 10}} {
		if err := m.Charge(c.n); err != c.err || m.Total() != c.total {
			t.Errorf("Charge(%d): %v, Total %d", c.n, err, m.Total())
		}
	}
}

func TestGreatestMeter(t *testing.T) {
	m := tally.New(most)
	if m.Charge(most-1) != api.OK || m.Charge(2) != api.ErrQuota || m.Charge(1) != api.OK || m.Charge(1) != api.ErrQuota || m.Total() != most {
		t.Errorf("Total %d", m.Total())
	}
}

func TestNoMeter(t *testing.T) {
	var none *tally.Meter
	if none.Charge(0) != api.ErrNil || none.Charge(1) != api.ErrNil || none.Total() != 0 {
		t.Error("a meter that is none")
	}
	if m := tally.New(0); m.Charge(1) != api.ErrQuota || m.Charge(0) != api.OK || m.Total() != 0 {
		t.Error("a meter of 0")
	}
}
