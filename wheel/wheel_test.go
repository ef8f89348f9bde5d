package wheel_test

import (
	"math"
	"slices"
	"testing"
	"time"

	"verger/api"
	"verger/wheel"
)

const last = math.MaxUint64

// ids has those that the plays use, and some that never have a timer.
var ids = []int{1, 2, 3, 4, 5, 1000, math.MaxInt, 0, -1, math.MinInt}

// ticks has those about the bounds of each level, of the span of all levels, and of time itself.
var ticks = []uint64{0, 1, 62, 63, 64, 65, 127, 128, 4031, 4095, 4096, 4097, 4160, 1<<18 - 1, 1 << 18, 1<<18 + 64, 1<<24 - 1<<18, 1<<24 - 1, 1 << 24, 1<<24 + 1, 1<<24 + 1<<18, 1 << 25, 1<<32 - 1, 1 << 32, 1 << 40, 1<<63 - 1, 1 << 63, last - 1<<24, last - 1<<24 + 1, last - 1<<18, last - 4096, last - 64, last - 63, last - 1, last}

func timer(due uint64, id int) api.Timer { return api.Timer{Due: due, ID: id} }

// model keeps one plain list, as the timers came, and works each answer out of it.
type model struct {
	now  uint64
	list []api.Timer
}

func (m *model) at(id int) int {
	for i, x := range m.list {
		if x.ID == id {
			return i
		}
	}
	return -1
}

func (m *model) add(id int, due uint64) api.Errno {
	switch {
	case id < 1:
		return api.ErrArg
	case m.at(id) >= 0:
		return api.ErrExists
	case len(m.list) == 1000:
		return api.ErrMany
	}
	m.list = append(m.list, timer(due, id))
	return api.OK
}

func (m *model) cancel(id int) bool {
	at := m.at(id)
	if at < 0 {
		return false
	}
	m.list = append(m.list[:at:at], m.list[at+1:]...)
	return true
}

// inOrder takes the first of what is left, again and again.
func inOrder(l []api.Timer) []api.Timer {
	var out []api.Timer
	left := slices.Clone(l)
	for len(left) > 0 {
		first := 0
		for i, x := range left {
			if y := left[first]; x.Due < y.Due || x.Due == y.Due && x.ID < y.ID {
				first = i
			}
		}
		out = append(out, left[first])
		left[first] = left[len(left)-1]
		left = left[:len(left)-1]
	}
	return out
}

func (m *model) advance(to uint64) []api.Timer {
	if to > m.now {
		m.now = to
	}
	var due, left []api.Timer
	for _, x := range m.list {
		if x.Due > m.now {
			left = append(left, x)
		} else {
			due = append(due, x)
		}
	}
	m.list = left
	return inOrder(due)
}

// hold asks all that can be asked without changing anything.
func hold(t *testing.T, w *wheel.Wheel, m *model) {
	t.Helper()
	want := inOrder(m.list)
	if got := w.All(); !slices.Equal(got, want) {
		t.Fatalf("All() = %v, want %v", got, want)
	}
	if w.Len() != len(want) || w.Now() != m.now {
		t.Fatalf("Len() = %d, Now() = %d, want %d, %d", w.Len(), w.Now(), len(want), m.now)
	}
	next := uint64(0)
	if len(want) > 0 {
		next = want[0].Due
	}
	if got, ok := w.Next(); got != next || ok != (len(want) > 0) {
		t.Fatalf("Next() = %d, %t, want %d of %v", got, ok, next, want)
	}
	for _, id := range ids {
		due, at := uint64(0), m.at(id)
		if at >= 0 {
			due = m.list[at].Due
		}
		if got, ok := w.Due(id); got != due || ok != (at >= 0) {
			t.Fatalf("Due(%d) = %d, %t, want %d, %t", id, got, ok, due, at >= 0)
		}
	}
}

// both does a call on the wheel and on its model.
type both struct {
	t *testing.T
	w *wheel.Wheel
	m *model
}

func newBoth(t *testing.T, now uint64) both {
	return both{t, wheel.New(now), &model{now: now}}
}

func (b both) add(id int, due uint64) {
	b.t.Helper()
	if got, want := b.w.Add(id, due), b.m.add(id, due); got != want {
		b.t.Fatalf("at %d: Add(%d, %d) = %v, want %v", b.m.now, id, due, got, want)
	}
}

func (b both) cancel(id int) {
	b.t.Helper()
	if got, want := b.w.Cancel(id), b.m.cancel(id); got != want {
		b.t.Fatalf("at %d: Cancel(%d) = %v, want %v", b.m.now, id, got, want)
	}
}

func (b both) advance(to uint64) {
	b.t.Helper()
	from := b.m.now
	if got, want := b.w.Advance(to), b.m.advance(to); !slices.Equal(got, want) {
		b.t.Fatalf("at %d: Advance(%d) = %v, want %v", from, to, got, want)
	}
}

// 12.1: the chapter's example.
func TestExample(t *testing.T) {
	w := wheel.New(0)
	if w.Add(1, 5) != api.OK || w.Add(2, 3) != api.OK {
		t.Error("Add")
	}
	if got := w.Advance(9); !slices.Equal(got, []api.Timer{timer(3, 2), timer(5, 1)}) {
		t.Errorf("Advance(9) = %v", got)
	}
	if w.Now() != 9 || w.Len() != 0 {
		t.Errorf("Now() = %d, Len() = %d", w.Now(), w.Len())
	}
}

// 12.1: a new one has nothing, whatever tick it is.
func TestNew(t *testing.T) {
	for _, now := range ticks {
		b := newBoth(t, now)
		hold(t, b.w, b.m)
		b.cancel(1)
		b.advance(0)
		b.advance(now)
		hold(t, b.w, b.m)
	}
}

// 12.1: which error is told where several apply; none of them changes anything.
func TestAddErrors(t *testing.T) {
	b := newBoth(t, 5)
	for i := range 1000 {
		b.add(i+1, uint64(i)<<(i%50))
	}
	for _, x := range []struct {
		id   int
		due  uint64
		want api.Errno
	}{
		{0, 9, api.ErrArg},
		{-1, 9, api.ErrArg},
		{math.MinInt, last, api.ErrArg},
		{1, 9, api.ErrExists},
		{1000, 0, api.ErrExists},
		{1001, 9, api.ErrMany},
		{math.MaxInt, last, api.ErrMany},
	} {
		if got := b.w.Add(x.id, x.due); got != x.want {
			t.Errorf("Add(%d, %d) = %v, want %v", x.id, x.due, got, x.want)
		}
		hold(t, b.w, b.m)
	}
	b.cancel(7)
	b.add(1001, 9)
	b.add(7, 9)
	b.cancel(500)
	b.add(500, 1<<60)
	hold(t, b.w, b.m)
	b.advance(1000)
	b.add(math.MaxInt, 3)
	hold(t, b.w, b.m)
}

// 12.1: 1,000 and not one less, whichever places they stand at: all late, all of one tick, all far.
func TestThousandOfOnePlace(t *testing.T) {
	for _, now := range []uint64{0, 100, 1<<24 - 1, last} {
		for _, due := range []uint64{0, 100, 1 << 12, 1 << 20, 1 << 30, last} {
			b := newBoth(t, now)
			for i := range 1001 {
				b.add(1001-i, due)
			}
			hold(t, b.w, b.m)
			b.advance(due)
			hold(t, b.w, b.m)
		}
	}
}

// 12.1: one that is not above Now keeps its Due, and is due at the next Advance, to whatever tick that is.
func TestLate(t *testing.T) {
	for _, now := range ticks {
		for _, to := range ticks {
			b := newBoth(t, now)
			b.add(1, now)
			b.add(2, now/2)
			b.add(3, 0)
			hold(t, b.w, b.m)
			if got := b.w.Len(); got != 3 {
				t.Fatalf("at %d: Len() = %d", now, got)
			}
			b.advance(to)
			hold(t, b.w, b.m)
			if got := b.w.Len(); got != 0 {
				t.Fatalf("from %d to %d: Len() = %d", now, to, got)
			}
		}
	}
}

// 12.1: a late one stands beside what is due now and goes ahead of it; it can be cancelled.
func TestLateBesideNow(t *testing.T) {
	b := newBoth(t, 100)
	b.add(1, 100)
	b.add(2, 36) // of the same slot as 100, if a slot alone is looked at
	b.add(3, 164)
	b.add(4, 99)
	hold(t, b.w, b.m)
	b.cancel(2)
	hold(t, b.w, b.m)
	b.add(2, 98)
	b.advance(0)
	hold(t, b.w, b.m)
}

// 12.1: of the same Due, by ID, though they came in another order; a lesser ID does not go ahead of a lesser Due.
func TestOrder(t *testing.T) {
	for _, due := range ticks {
		b := newBoth(t, 0)
		for _, id := range []int{5, 1, 1000, 3, math.MaxInt, 2} {
			b.add(id, due)
		}
		b.add(4, due/2+1)
		hold(t, b.w, b.m)
		b.advance(due/2 + 1)
		hold(t, b.w, b.m)
		b.advance(due)
		hold(t, b.w, b.m)
	}
}

// 12.1: time does not go back.
func TestNotBack(t *testing.T) {
	b := newBoth(t, 1000)
	for i, due := range []uint64{999, 1001, 1002, 5000} {
		b.add(i+1, due)
	}
	for _, to := range []uint64{0, 999, 1000, 1001, 3, 1001, 1000} {
		b.advance(to)
		hold(t, b.w, b.m)
	}
	if b.w.Now() != 1001 || b.w.Len() != 2 {
		t.Errorf("Now() = %d, Len() = %d", b.w.Now(), b.w.Len())
	}
}

// 12.1: an id whose timer is gone is free for another, in another place.
func TestAgain(t *testing.T) {
	b := newBoth(t, 0)
	for _, due := range ticks {
		b.add(1, due)
		b.add(1, due+1)
		b.cancel(1)
		b.cancel(1)
		b.add(1, due)
		hold(t, b.w, b.m)
		b.advance(due)
		b.cancel(1)
		hold(t, b.w, b.m)
	}
}

// 12.1: what is cancelled never comes, and what stands beside it does, wherever they stand and however far they moved.
func TestCancelAnywhere(t *testing.T) {
	for _, now := range ticks {
		for _, due := range ticks {
			for _, mid := range ticks {
				b := newBoth(t, now)
				b.add(3, due)
				b.add(1, due)
				b.add(2, due)
				b.advance(mid)
				b.cancel(1)
				b.cancel(1)
				hold(t, b.w, b.m)
				b.cancel(3)
				b.cancel(2)
				hold(t, b.w, b.m)
				b.add(1, due)
				b.advance(due)
				hold(t, b.w, b.m)
			}
		}
	}
}

// 12.1, W2: from each tick to each by way of each, with timers about all bounds: each is told in the leg where it is due.
func TestLeapsBetweenBounds(t *testing.T) {
	for _, now := range ticks {
		for _, mid := range ticks {
			for _, to := range ticks {
				b := newBoth(t, now)
				for i, due := range ticks {
					b.add(i+1, due)
				}
				b.advance(mid)
				if got, want := b.w.Len(), len(b.m.list); got != want {
					t.Fatalf("from %d to %d: Len() = %d, want %d", now, mid, got, want)
				}
				b.advance(to)
				hold(t, b.w, b.m)
			}
		}
	}
}

// W2: each is told once, by the first Advance that comes to its Due and by none ahead of it, with steps of any length.
func TestOnceAndNotAhead(t *testing.T) {
	for _, step := range []uint64{1, 2, 3, 63, 64, 65, 1000, 4095, 4096, 4097, 1<<18 - 1, 1 << 18, 1<<24 - 1, 1 << 24, 1<<24 + 1, 1 << 33} {
		for _, start := range []uint64{0, 50, 1<<24 - 100, last - step*3000} {
			w := wheel.New(start)
			dues := map[int]uint64{}
			for id := 1; id <= 600; id++ {
				dues[id] = start + uint64(id*id)*step/200 + uint64(id%3)
				if e := w.Add(id, dues[id]); e != api.OK {
					t.Fatal(e)
				}
			}
			for now := start; len(dues) > 0; now += step {
				before := w.Now()
				for _, x := range w.Advance(now) {
					due, ok := dues[x.ID]
					if !ok || due != x.Due || due > now || due <= before && now > start {
						t.Fatalf("step %d: at %d behind %d: %v, want %d, %t", step, now, before, x, due, ok)
					}
					delete(dues, x.ID)
				}
				if next, ok := w.Next(); ok && next <= now || ok != (len(dues) > 0) {
					t.Fatalf("step %d: at %d: %d is left, of %d", step, now, next, len(dues))
				}
			}
		}
	}
}

// 12.1: by Next alone one comes from each due tick to the one behind it.
func TestFromNextToNext(t *testing.T) {
	w := wheel.New(0)
	for i, due := range ticks {
		w.Add(i+1, due)
	}
	for _, due := range ticks {
		next, ok := w.Next()
		if next != due || !ok {
			t.Fatalf("Next() = %d, %t, want %d", next, ok, due)
		}
		if due > 0 && len(w.Advance(due-1)) != 0 {
			t.Fatalf("due ahead of %d", due)
		}
		if got := w.Advance(next); len(got) != 1 || got[0].Due != due {
			t.Fatalf("Advance(%d) = %v", next, got)
		}
	}
	if next, ok := w.Next(); next != 0 || ok {
		t.Errorf("Next() = %d, %t of none", next, ok)
	}
}

// 12.1: every row of four calls out of a set of all kinds.
func TestEveryRow(t *testing.T) {
	const now = 1<<12 - 2
	calls := []func(both){
		func(b both) { b.add(1, now-70) },
		func(b both) { b.add(2, now) },
		func(b both) { b.add(1, now+1) },
		func(b both) { b.add(2, now+2) },
		func(b both) { b.add(1, now+3) },
		func(b both) { b.add(2, now+66) },
		func(b both) { b.add(3, 1<<18+5) },
		func(b both) { b.add(3, 1<<24) },
		func(b both) { b.add(0, now+1) },
		func(b both) { b.add(4, last) },
		func(b both) { b.cancel(1) },
		func(b both) { b.cancel(2) },
		func(b both) { b.cancel(3) },
		func(b both) { b.advance(0) },
		func(b both) { b.advance(now + 1) },
		func(b both) { b.advance(now + 2) },
		func(b both) { b.advance(now + 66) },
		func(b both) { b.advance(1 << 18) },
		func(b both) { b.advance(1<<24 + 1) },
		func(b both) { b.advance(last) },
	}
	n := len(calls)
	for row := range n * n * n * n {
		b := newBoth(t, now)
		for left, i := row, 0; i < 4; i++ {
			calls[left%n](b)
			left /= n
		}
		hold(t, b.w, b.m)
	}
}

// play does one call that the numbers pick. far is how many bits ahead a due or a leap may be.
func (b both) play(kind, id, far, much uint64) {
	b.t.Helper()
	ahead := much & (1<<far - 1)
	sum := b.m.now + ahead
	if sum < ahead {
		sum = last
	}
	name := ids[id%uint64(len(ids))]
	switch kind % 8 {
	case 0, 1, 2:
		b.add(name, sum)
	case 3:
		b.add(name, much)
	case 4:
		b.cancel(name)
	default:
		b.advance(sum)
	}
}

// 12.1, 12.2: long rows of calls, near and far, from the first ticks on and up to the last.
func TestLongRows(t *testing.T) {
	state := uint64(12)
	draw := func(n uint64) uint64 {
		state = state*6364136223846793005 + 1442695040888963407
		return state >> 33 % n
	}
	for _, now := range ticks {
		for far := uint64(1); far <= 60; far++ {
			b := newBoth(t, now)
			for range 150 {
				b.play(draw(8), draw(20), 1+draw(far), draw(1<<31)<<31|draw(1<<31))
				hold(t, b.w, b.m)
			}
			b.advance(last)
			hold(t, b.w, b.m)
		}
	}
}

// 12.1: what is answered is memory of its own, so that what is written there, or into its spare room, is seen in nothing else.
func TestAnswersAreNew(t *testing.T) {
	spoil := func(l []api.Timer) {
		l = l[:cap(l)]
		for i := range l {
			l[i] = timer(0, 1)
		}
	}
	b := newBoth(t, 0)
	for i, due := range ticks {
		b.add(i+1, due)
		b.add(i+101, due)
	}
	spoil(b.w.All())
	hold(t, b.w, b.m)
	for _, to := range ticks {
		b.m.advance(to)
		spoil(b.w.Advance(to))
		spoil(b.w.All())
		hold(t, b.w, b.m)
		b.add(1, last)
		b.add(2, to)
		hold(t, b.w, b.m)
	}
}

// 12.1: two wheels have nothing of each other's.
func TestTwo(t *testing.T) {
	one, other := newBoth(t, 3), newBoth(t, 3)
	one.add(1, 9)
	one.add(2, 1<<30)
	hold(t, other.w, other.m)
	other.add(1, 7)
	one.advance(8)
	other.advance(8)
	hold(t, one.w, one.m)
	hold(t, other.w, other.m)
}

// 12.2, 12.3: a leap ends at once, however far it is. One that goes tick by tick, or slot by slot, would not in a lifetime.
func TestFarLeapsEnd(t *testing.T) {
	ended := make(chan int)
	go func() {
		told := 0
		for _, from := range ticks {
			for _, to := range ticks {
				w := wheel.New(from)
				for i, due := range ticks {
					w.Add(i+1, due)
				}
				told += len(w.Advance(to)) + len(w.Advance(last))
			}
		}
		ended <- told
	}()
	select {
	case told := <-ended:
		if want := len(ticks) * len(ticks) * len(ticks); told != want {
			t.Errorf("%d told, want %d", told, want)
		}
	case <-time.After(2 * time.Minute):
		t.Fatal("it does not end")
	}
}

// 12.3, W1: whatever the numbers, each call answers, and what it should.
func FuzzCalls(f *testing.F) {
	f.Add(uint64(0), []byte{0, 1, 9, 5, 0, 2, 9, 3, 5, 0, 9, 9})
	f.Add(uint64(last), []byte{3, 6, 0, 255, 0, 1, 63, 255, 7, 0, 63, 255, 4, 6, 0, 0})
	f.Add(uint64(1<<24-1), []byte{0, 7, 0, 0, 0, 8, 1, 1, 0, 9, 2, 2, 4, 9, 0, 0, 6, 0, 30, 77})
	f.Add(uint64(1<<63), []byte{1, 0, 12, 200, 1, 1, 18, 201, 1, 2, 24, 202, 1, 3, 30, 203, 5, 0, 18, 17, 5, 0, 24, 99})
	f.Fuzz(func(t *testing.T, now uint64, calls []byte) {
		b := newBoth(t, now)
		for ; len(calls) >= 4; calls = calls[4:] {
			// The product spreads a byte over all bits of a word.
			b.play(uint64(calls[0]), uint64(calls[1]), uint64(calls[2]%64), (uint64(calls[3])+1)*0x9e3779b97f4a7c15)
			hold(t, b.w, b.m)
		}
	})
}
