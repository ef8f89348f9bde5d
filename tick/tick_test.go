package tick_test

import (
	"math"
	"math/big"
	"testing"

	"verger/tick"
)

const last = math.MaxUint64

// near has ticks about each bound, where a sum, a product or a grid may run over.
var near = []uint64{0, 1, 2, 3, 5, 7, 9, 100, 1<<31 - 1, 1 << 31, 1<<32 - 1, 1 << 32, 1<<32 + 1, 1<<62 + 3, 1<<63 - 1, 1 << 63, 1<<63 + 1, last / 3, last/3 + 1, last / 2, last - 3, last - 2, last - 1, last}

func bigOf(n uint64) *big.Int {
	return new(big.Int).SetUint64(n)
}

// capped is n if a tick holds it, else the bound that it went over.
func capped(n *big.Int) uint64 {
	if n.Sign() < 0 {
		return 0
	}
	if !n.IsUint64() {
		return last
	}
	return n.Uint64()
}

// 2.1
func TestAdd(t *testing.T) {
	for _, x := range [][3]uint64{
		{0, 0, 0},
		{2, 3, 5},
		{last, 0, last},
		{0, last, last},
		{last, 1, last},
		{1, last, last},
		{last - 1, 1, last},
		{last - 1, 2, last},
		{last, last, last},
		{1 << 63, 1 << 63, last},
		{1 << 63, 1<<63 - 1, last},
		{1 << 63, 1<<63 - 2, last - 1},
	} {
		if got := tick.Add(x[0], x[1]); got != x[2] {
			t.Errorf("Add(%d, %d) = %d, want %d", x[0], x[1], got, x[2])
		}
	}
}

// 2.1
func TestMul(t *testing.T) {
	for _, x := range [][3]uint64{
		{0, 0, 0},
		{2, 3, 6},
		{last, 0, 0},
		{0, last, 0},
		{last, 1, last},
		{1, last, last},
		{last, 2, last},
		{last, last, last},
		{1 << 32, 1 << 32, last},
		{1 << 32, 1<<32 - 1, last - 1<<32 + 1},
		{1 << 63, 2, last},
		{1<<63 - 1, 2, last - 1},
		{last / 3, 3, last},
		{last/3 + 1, 3, last},
	} {
		if got := tick.Mul(x[0], x[1]); got != x[2] {
			t.Errorf("Mul(%d, %d) = %d, want %d", x[0], x[1], got, x[2])
		}
	}
}

// 2.1
func TestSub(t *testing.T) {
	for _, x := range [][3]uint64{
		{0, 0, 0},
		{5, 3, 2},
		{3, 5, 0},
		{5, 5, 0},
		{0, 1, 0},
		{0, last, 0},
		{last, 0, last},
		{last, last, 0},
		{last - 1, last, 0},
		{last, last - 1, 1},
		{last, 1 << 63, 1<<63 - 1},
	} {
		if got := tick.Sub(x[0], x[1]); got != x[2] {
			t.Errorf("Sub(%d, %d) = %d, want %d", x[0], x[1], got, x[2])
		}
	}
}

// 2.1: against numbers without a bound.
func TestSumsNearBounds(t *testing.T) {
	for _, a := range near {
		for _, b := range near {
			if got, want := tick.Add(a, b), capped(new(big.Int).Add(bigOf(a), bigOf(b))); got != want {
				t.Errorf("Add(%d, %d) = %d, want %d", a, b, got, want)
			}
			if got, want := tick.Mul(a, b), capped(new(big.Int).Mul(bigOf(a), bigOf(b))); got != want {
				t.Errorf("Mul(%d, %d) = %d, want %d", a, b, got, want)
			}
			if got, want := tick.Sub(a, b), capped(new(big.Int).Sub(bigOf(a), bigOf(b))); got != want {
				t.Errorf("Sub(%d, %d) = %d, want %d", a, b, got, want)
			}
		}
	}
}

// 2.1
func TestOf(t *testing.T) {
	for n, want := range map[int64]uint64{
		0:                 0,
		1:                 1,
		7:                 7,
		-1:                0,
		-7:                0,
		math.MinInt64:     0,
		math.MinInt64 + 1: 0,
		math.MaxInt64:     1<<63 - 1,
		math.MaxInt32 + 1: 1 << 31,
	} {
		if got := tick.Of(n); got != want {
			t.Errorf("Of(%d) = %d, want %d", n, got, want)
		}
	}
}

// 2.1
func TestInt(t *testing.T) {
	for n, want := range map[uint64]int64{
		0:         0,
		1:         1,
		7:         7,
		1 << 32:   1 << 32,
		1<<63 - 2: math.MaxInt64 - 1,
		1<<63 - 1: math.MaxInt64,
		1 << 63:   math.MaxInt64,
		1<<63 + 1: math.MaxInt64,
		last:      math.MaxInt64,
	} {
		if got := tick.Int(n); got != want {
			t.Errorf("Int(%d) = %d, want %d", n, got, want)
		}
	}
}

// 2.2
func TestGrid(t *testing.T) {
	for _, x := range []struct {
		first, period, now uint64
		next               uint64
		ok                 bool
	}{
		{5, 3, 9, 11, true},
		{5, 3, 10, 11, true},
		{5, 3, 11, 14, true},
		{5, 3, 0, 5, true},
		{5, 3, 4, 5, true},
		{5, 3, 5, 8, true},
		{0, 1, 0, 1, true},
		{0, 7, 0, 7, true},
		{0, 7, 6, 7, true},
		{1, last, 0, 1, true},
		{0, last, 0, last, true},
		{0, last, last - 1, last, true},
		{0, 1, last - 1, last, true},
		{last, 1, 0, last, true},
		{last, last, last - 1, last, true},
		// The last tick itself is in the grid, and what comes behind it would run over.
		{last - 6, 3, last - 1, last, true},
		{last - 6, 3, last, 0, false},
		{last - 5, 3, last - 2, 0, false},
		{0, 1, last, 0, false},
		{0, last, last, 0, false},
		{1, last, 1, 0, false},
		{last, 1, last, 0, false},
		{0, 1 << 63, 1 << 63, 0, false},
		{0, 1 << 63, 1<<63 - 1, 1 << 63, true},
		// Without a period there is no grid, not even its first tick.
		{5, 0, 0, 0, false},
		{5, 0, 5, 0, false},
		{5, 0, 9, 0, false},
		{last, 0, 0, 0, false},
	} {
		if next, ok := tick.Grid(x.first, x.period, x.now); next != x.next || ok != x.ok {
			t.Errorf("Grid(%d, %d, %d) = %d, %t, want %d, %t", x.first, x.period, x.now, next, ok, x.next, x.ok)
		}
	}
}

// 2.2
func TestMissed(t *testing.T) {
	for _, x := range [][5]uint64{
		{5, 3, 4, 12, 3},
		{5, 3, 5, 12, 2},
		{5, 3, 5, 10, 1},
		{5, 3, 5, 11, 2},
		{5, 3, 8, 10, 0},
		{5, 3, 0, 4, 0},
		{5, 3, 0, 5, 1},
		{0, 1, 0, 1, 1},
		{0, 1, 0, last, last},
		{0, 1, 1, last, last - 1},
		{0, 2, 0, last, last / 2},
		{0, last, 0, last, 1},
		{1, last, 0, last, 1},
		{1, last, 1, last, 0},
		{last, 1, last - 1, last, 1},
		{last, 1, 0, last - 1, 0},
		{last - 6, 3, 0, last, 3},
		// Nothing lies between two that are one, or turned round.
		{5, 3, 8, 8, 0},
		{5, 3, 0, 0, 0},
		{0, 1, 9, 3, 0},
		{0, 1, last, 0, 0},
		{0, 1, last, last, 0},
		{9, 1, 5, 3, 0},
		// Without a period there is no grid.
		{5, 0, 0, 99, 0},
		{5, 0, 4, 5, 0},
		{0, 0, 0, last, 0},
	} {
		if got := tick.Missed(x[0], x[1], x[2], x[3]); got != x[4] {
			t.Errorf("Missed(%d, %d, %d, %d) = %d, want %d", x[0], x[1], x[2], x[3], got, x[4])
		}
	}
}

// 2.2: against going through the grid tick by tick.
func TestGridStepByStep(t *testing.T) {
	const end = 24
	for first := uint64(0); first < 9; first++ {
		for period := uint64(1); period < 9; period++ {
			for now := uint64(0); now < end; now++ {
				want := first
				for want <= now {
					want += period
				}
				if next, ok := tick.Grid(first, period, now); next != want || !ok {
					t.Errorf("Grid(%d, %d, %d) = %d, %t, want %d", first, period, now, next, ok, want)
				}
				for to := uint64(0); to < end; to++ {
					count := uint64(0)
					for at := first; at <= to; at += period {
						if at > now {
							count++
						}
					}
					if got := tick.Missed(first, period, now, to); got != count {
						t.Errorf("Missed(%d, %d, %d, %d) = %d, want %d", first, period, now, to, got, count)
					}
				}
			}
		}
	}
}

// upTo is how many ticks of the grid are not above to.
func upTo(first, period, to uint64) *big.Int {
	if first > to {
		return new(big.Int)
	}
	n := new(big.Int).Sub(bigOf(to), bigOf(first))
	n.Div(n, bigOf(period))
	return n.Add(n, big.NewInt(1))
}

// 2.2: against numbers without a bound.
func TestGridNearBounds(t *testing.T) {
	for _, first := range near {
		for _, period := range near[1:] {
			for _, now := range near {
				passed := upTo(first, period, now)
				next := new(big.Int).Mul(passed, bigOf(period))
				next.Add(next, bigOf(first))
				want, fits := uint64(0), next.IsUint64()
				if fits {
					want = next.Uint64()
				}
				if got, ok := tick.Grid(first, period, now); got != want || ok != fits {
					t.Errorf("Grid(%d, %d, %d) = %d, %t, want %d, %t", first, period, now, got, ok, want, fits)
				}
				for _, to := range near {
					missed := capped(new(big.Int).Sub(upTo(first, period, to), passed))
					if got := tick.Missed(first, period, now, to); got != missed {
						t.Errorf("Missed(%d, %d, %d, %d) = %d, want %d", first, period, now, to, got, missed)
					}
				}
			}
		}
	}
}

// 2.3: a period of 0 too, by which nothing may be divided.
func TestNoPanic(t *testing.T) {
	defer func() {
		if r := recover(); r != nil {
			t.Fatal(r)
		}
	}()
	for _, a := range near {
		tick.Of(int64(a))
		tick.Int(a)
		for _, b := range near {
			tick.Add(a, b)
			tick.Mul(a, b)
			tick.Sub(a, b)
			for _, c := range near {
				if next, ok := tick.Grid(a, b, c); ok && (next <= c || b == 0) || !ok && next != 0 {
					t.Errorf("Grid(%d, %d, %d) = %d, %t", a, b, c, next, ok)
				}
				for _, d := range near {
					if n := tick.Missed(a, b, c, d); n > tick.Sub(d, c) || b == 0 && n != 0 {
						t.Errorf("Missed(%d, %d, %d, %d) = %d", a, b, c, d, n)
					}
				}
			}
		}
	}
}
