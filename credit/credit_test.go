package credit_test

import (
	"math"
	"testing"

	"verger/api"
	"verger/credit"
)

func credits(t *testing.T, n int) *credit.Credits {
	t.Helper()
	c, e := credit.New(n)
	if e != api.OK || c == nil {
		t.Fatalf("New(%d) = %v, %d", n, c, e)
	}
	return c
}

// told holds all that can be asked against what it should be.
func told(t *testing.T, c *credit.Credits, free, out, most int) {
	t.Helper()
	if c.Free() != free || c.Out() != out || c.Most() != most {
		t.Errorf("Free %d, Out %d, Most %d, want %d, %d, %d", c.Free(), c.Out(), c.Most(), free, out, most)
	}
}

// 15.1, 15.3: New takes 1 to 64 and nothing else, and all are free then.
func TestNew(t *testing.T) {
	wrong := []int{0, -1, -2, -63, -64, -65, 65, 66, 100, 128, 129, 1 << 8, 1<<8 + 1, 1<<16 + 1, 1<<32 + 1, 1<<32 + 64,
		math.MaxInt32, math.MinInt32, math.MaxInt, math.MaxInt - 1, math.MinInt, math.MinInt + 1, math.MinInt + 64}
	for _, n := range wrong {
		if c, e := credit.New(n); c != nil || e != api.ErrArg {
			t.Errorf("New(%d) = %v, %d", n, c, e)
		}
	}
	for n := -200; n <= 200; n++ {
		c, e := credit.New(n)
		if n < 1 || n > api.MaxCredits {
			if c != nil || e != api.ErrArg {
				t.Errorf("New(%d) = %v, %d", n, c, e)
			}
			continue
		}
		if c == nil || e != api.OK {
			t.Fatalf("New(%d) = %v, %d", n, c, e)
		}
		told(t, c, n, 0, 0)
	}
}

// 15.1: the chapter's example.
func TestExample(t *testing.T) {
	c := credits(t, 1)
	if !c.Take() {
		t.Error("the first Take is false")
	}
	if c.Take() {
		t.Error("the second Take is true")
	}
	if e := c.Give(); e != api.OK {
		t.Errorf("Give = %d", e)
	}
	if !c.Take() {
		t.Error("the third Take is false")
	}
	told(t, c, 0, 1, 1)
}

// 15.1: a row of calls, each with what it answers and what can be asked behind it.
func TestRow(t *testing.T) {
	c := credits(t, 3)
	for i, x := range []struct {
		take            bool
		ok              bool
		free, out, most int
	}{
		{false, false, 3, 0, 0},
		{true, true, 2, 1, 1},
		{false, true, 3, 0, 1},
		{false, false, 3, 0, 1},
		{true, true, 2, 1, 1},
		{true, true, 1, 2, 2},
		{false, true, 2, 1, 2},
		{true, true, 1, 2, 2},
		{true, true, 0, 3, 3},
		{true, false, 0, 3, 3},
		{true, false, 0, 3, 3},
		{false, true, 1, 2, 3},
		{true, true, 0, 3, 3},
		{false, true, 1, 2, 3},
		{false, true, 2, 1, 3},
		{false, true, 3, 0, 3},
		{false, false, 3, 0, 3},
		{false, false, 3, 0, 3},
		{true, true, 2, 1, 3},
	} {
		if x.take {
			if ok := c.Take(); ok != x.ok {
				t.Errorf("call %d: Take = %t", i, ok)
			}
		} else if e, want := c.Give(), given(x.ok); e != want {
			t.Errorf("call %d: Give = %d, want %d", i, e, want)
		}
		told(t, c, x.free, x.out, x.most)
	}
}

// given is what Give answers, as it can or can not be.
func given(ok bool) api.Errno {
	if ok {
		return api.OK
	}
	return api.ErrState
}

// 15.1, 15.2, W6: of each number that may be, all can be taken, then none, and all be given back, then none; twice over.
func TestAllOutAndBack(t *testing.T) {
	for n := 1; n <= api.MaxCredits; n++ {
		c := credits(t, n)
		for turn := range 2 {
			for i := range n {
				if !c.Take() {
					t.Fatalf("%d: Take with %d out is false", n, i)
				}
				told(t, c, n-i-1, i+1, max(i+1, turn*n))
			}
			for range 3 {
				if c.Take() {
					t.Fatalf("%d: Take with all out is true", n)
				}
				told(t, c, 0, n, n)
			}
			for i := range n {
				if e := c.Give(); e != api.OK {
					t.Fatalf("%d: Give with %d out = %d", n, n-i, e)
				}
				told(t, c, i+1, n-i-1, n)
			}
			for range 3 {
				if e := c.Give(); e != api.ErrState {
					t.Fatalf("%d: Give with none out = %d", n, e)
				}
				told(t, c, n, 0, n)
			}
		}
	}
}

// 15.1: Most is the most that were out at one time: not how often one was taken, and not how many are out now.
func TestMost(t *testing.T) {
	c := credits(t, 5)
	for range 100 {
		c.Take()
		c.Give()
	}
	told(t, c, 5, 0, 1)
	for up := 2; up <= 5; up++ {
		for range up {
			c.Take()
		}
		told(t, c, 5-up, up, up)
		for range up {
			c.Give()
		}
		told(t, c, 5, 0, up)
		c.Take()
		told(t, c, 4, 1, up)
		c.Give()
	}
	for range 100 {
		c.Give()
	}
	told(t, c, 5, 0, 5)
}

// 15.1, 15.3: what can't be done changes nothing, however often it is asked.
func TestRefusedChangesNothing(t *testing.T) {
	c := credits(t, 2)
	for range 1000 {
		if e := c.Give(); e != api.ErrState {
			t.Fatalf("Give = %d", e)
		}
	}
	told(t, c, 2, 0, 0)
	c.Take()
	c.Take()
	for range 1000 {
		if c.Take() {
			t.Fatal("Take is true")
		}
	}
	told(t, c, 0, 2, 2)
	if c.Give() != api.OK || c.Give() != api.OK || c.Give() != api.ErrState {
		t.Error("refused calls were counted")
	}
}

// 15.1: asking changes nothing.
func TestAskingChangesNothing(t *testing.T) {
	c := credits(t, 3)
	for range 50 {
		told(t, c, 3, 0, 0)
	}
	c.Take()
	c.Take()
	c.Give()
	for range 50 {
		told(t, c, 2, 1, 2)
	}
}

// 15.1: two that New gave share nothing.
func TestTwo(t *testing.T) {
	a, b := credits(t, 2), credits(t, 2)
	a.Take()
	a.Take()
	told(t, a, 0, 2, 2)
	told(t, b, 2, 0, 0)
	if b.Give() != api.ErrState || !b.Take() || b.Give() != api.OK {
		t.Error("one's credits are the other's")
	}
	told(t, a, 0, 2, 2)
	told(t, b, 2, 0, 1)
}

// holders is the plainest there is: a place a credit, and who has it; and how many had one, behind each call.
type holders struct {
	places []bool
	past   []int
}

func (h *holders) out() int {
	n := 0
	for _, has := range h.places {
		if has {
			n++
		}
	}
	return n
}

func (h *holders) most() int {
	n := 0
	for _, p := range h.past {
		n = max(n, p)
	}
	return n
}

// turn changes the first place that is from; false, if there is none.
func (h *holders) turn(from bool) bool {
	for i, has := range h.places {
		if has == from {
			h.places[i] = !from
			h.past = append(h.past, h.out())
			return true
		}
	}
	return false
}

// both plays a row of calls to the credits and to the holders, and holds every answer of one against the other's.
func both(t *testing.T, n int, calls []bool) {
	t.Helper()
	c := credits(t, n)
	h := &holders{places: make([]bool, n)}
	for i, take := range calls {
		if take {
			if got, want := c.Take(), h.turn(false); got != want {
				t.Fatalf("%d, %v: call %d: Take = %t", n, calls, i, got)
			}
		} else if got, want := c.Give(), given(h.turn(true)); got != want {
			t.Fatalf("%d, %v: call %d: Give = %d, want %d", n, calls, i, got, want)
		}
		if c.Out() != h.out() || c.Free() != n-h.out() || c.Most() != h.most() {
			t.Fatalf("%d, %v: call %d: Out %d, Free %d, Most %d, want %d, %d, %d", n, calls, i, c.Out(), c.Free(), c.Most(), h.out(), n-h.out(), h.most())
		}
		if c.Free()+c.Out() != n || c.Free() < 0 || c.Out() < 0 || c.Most() < c.Out() || c.Most() > n {
			t.Fatalf("%d, %v: call %d: Out %d, Free %d, Most %d", n, calls, i, c.Out(), c.Free(), c.Most())
		}
	}
}

// 15.1, 15.2, 15.3, W6: every row of ten calls.
func TestEveryRow(t *testing.T) {
	const length = 10
	for n := 1; n <= 5; n++ {
		for row := range 1 << length {
			calls := make([]bool, length)
			for i := range calls {
				calls[i] = row>>i&1 == 1
			}
			both(t, n, calls)
		}
	}
}

// 15.1, 15.2, 15.3, W6: long rows that lean now to the one call, now to the other.
func TestLongRows(t *testing.T) {
	state := uint64(15)
	draw := func(n uint64) uint64 {
		state ^= state << 13
		state ^= state >> 7
		state ^= state << 17
		return (state >> 11) % n
	}
	for _, n := range []int{1, 2, 3, 7, 8, 31, 32, 33, 63, 64} {
		for range 6 {
			calls := make([]bool, 800)
			lean := uint64(0)
			for i := range calls {
				if i%100 == 0 {
					lean = 1 + draw(9)
				}
				calls[i] = draw(10) < lean
			}
			both(t, n, calls)
		}
	}
}

// 15.1, 15.2, 15.3: rows of calls that are made of any bytes.
func FuzzCredits(f *testing.F) {
	f.Add(0, []byte{})
	f.Add(1, []byte{0xff, 0x00})
	f.Add(3, []byte{0x0f, 0xf0, 0xaa})
	f.Add(64, []byte{0xff, 0xff, 0xff, 0xff, 0xff, 0xff, 0xff, 0xff, 0xff, 0, 0, 0, 0, 0, 0, 0, 0, 0})
	f.Add(65, []byte{1})
	f.Fuzz(func(t *testing.T, n int, row []byte) {
		if n < 1 || n > 64 {
			if c, e := credit.New(n); c != nil || e != api.ErrArg {
				t.Fatalf("New(%d) = %v, %d", n, c, e)
			}
			return
		}
		var calls []bool
		for _, b := range row[:min(len(row), 100)] {
			for i := range 8 {
				calls = append(calls, b>>i&1 == 1)
			}
		}
		both(t, n, calls)
	})
}
