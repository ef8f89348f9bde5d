package slot_test

import (
	"math"
	"slices"
	"testing"

	"verger/api"
	"verger/slot"
)

const most = math.MaxUint64

// some are entries of one Key and of unlike ones, of one ID and of unlike ones, one of zeros, and both ends; they are not in order.
var some = []api.Entry{
	{Key: 9, ID: 2},
	{Key: 3, ID: 2},
	{},
	{Key: 3, ID: -1},
	{Key: most, ID: math.MaxInt},
	{Key: 0, ID: math.MinInt},
	{Key: 5, ID: 1},
	{Key: 4, ID: 1 << 32},
}

// ids are asked for by Drop: those of some, and others.
var ids = []int{2, 0, -1, math.MaxInt, math.MinInt, 1, 1 << 32, 7, -2, 9, math.MaxInt - 1}

// none has threads that are none, however many there are.
var none = []int{-1, 8, 9, -8, 1 << 8, 1 << 16, 1 << 32, 1<<32 + 1, math.MaxInt32, math.MinInt32, math.MaxInt, math.MinInt}

// change is what was done to a slot.
type change struct {
	thread int
	e      api.Entry
	in     bool
}

// model is all that was done; what the slots have, and their versions, is worked out of it each time.
type model struct {
	threads int
	done    []change
}

func (m *model) get(t int) (e api.Entry, version uint64, ok bool) {
	for _, c := range m.done {
		if c.thread != t {
			continue
		}
		version++
		e, ok = api.Entry{}, c.in
		if c.in {
			e = c.e
		}
	}
	return e, version, ok
}

func (m *model) put(t int, e api.Entry) api.Errno {
	if _, _, ok := m.get(t); ok {
		return api.ErrState
	}
	if t < 0 || t >= m.threads {
		return api.ErrArg
	}
	m.done = append(m.done, change{t, e, true})
	return api.OK
}

func (m *model) take(t int, version uint64) (api.Entry, bool) {
	e, now, ok := m.get(t)
	if !ok || now != version {
		return api.Entry{}, false
	}
	m.done = append(m.done, change{thread: t})
	return e, true
}

func (m *model) drop(id int) bool {
	for t := range m.threads {
		if e, _, ok := m.get(t); ok && e.ID == id {
			m.done = append(m.done, change{thread: t})
			return true
		}
	}
	return false
}

func slots(t *testing.T, threads int) (*slot.Slots, *model) {
	t.Helper()
	s, f := slot.New(threads)
	if f != api.OK || s == nil {
		t.Fatalf("New(%d) = %v, %d", threads, s, f)
	}
	return s, &model{threads: threads}
}

// full are slots of which each has one, in the order of some.
func full(t *testing.T, threads int) (*slot.Slots, *model) {
	t.Helper()
	s, want := slots(t, threads)
	for i := range threads {
		if f := s.Put(i, some[i]); f != api.OK {
			t.Fatalf("Put(%d, %v) = %d", i, some[i], f)
		}
		want.put(i, some[i])
	}
	return s, want
}

// same holds all that can be asked of s against the model.
func same(t *testing.T, s *slot.Slots, want *model) {
	t.Helper()
	if got := s.Threads(); got != want.threads {
		t.Fatalf("Threads() = %d, want %d", got, want.threads)
	}
	var all []api.Entry
	for i := -1; i <= want.threads; i++ {
		e, version, ok := want.get(i)
		if gotE, gotVersion, gotOk := s.Get(i); gotE != e || gotVersion != version || gotOk != ok {
			t.Fatalf("Get(%d) = %v, %d, %t, want %v, %d, %t", i, gotE, gotVersion, gotOk, e, version, ok)
		}
		if ok {
			all = append(all, e)
		}
	}
	if got := s.All(); !slices.Equal(got, all) {
		t.Fatalf("All() = %v, want %v", got, all)
	}
}

// 9.1: the bounds of New; at first each slot is empty and of version 0.
func TestNew(t *testing.T) {
	for _, n := range []int{0, -1, -8, 9, 10, 16, 1<<8 + 1, 1<<16 + 1, 1<<32 + 1, math.MaxInt, math.MinInt, math.MinInt + 1} {
		if s, f := slot.New(n); s != nil || f != api.ErrArg {
			t.Errorf("New(%d) = %v, %d", n, s, f)
		}
	}
	for n := 1; n <= 8; n++ {
		s, want := slots(t, n)
		same(t, s, want)
	}
}

// 9.1: the chapter's example.
func TestExample(t *testing.T) {
	s, want := slots(t, 1)
	if f := s.Put(0, some[3]); f != api.OK {
		t.Errorf("Put = %d", f)
	}
	want.put(0, some[3])
	if e, ok := s.Take(0, 1); e != some[3] || !ok {
		t.Errorf("Take = %v, %t", e, ok)
	}
	want.take(0, 1)
	if e, ok := s.Take(0, 1); e != (api.Entry{}) || ok {
		t.Errorf("Take once more = %v, %t", e, ok)
	}
	same(t, s, want)
}

// 9.1: each thread has a slot of its own, and each entry is one, that of zeros too.
func TestPut(t *testing.T) {
	for n := 1; n <= 8; n++ {
		for at := range n {
			for _, e := range some {
				s, want := slots(t, n)
				if f := s.Put(at, e); f != api.OK {
					t.Fatalf("Put(%d, %v) of %d = %d", at, e, n, f)
				}
				want.put(at, e)
				same(t, s, want)
				if got, version, ok := s.Get(at); got != e || version != 1 || !ok {
					t.Fatalf("Get(%d) = %v, %d, %t behind Put of %v", at, got, version, ok, e)
				}
			}
		}
	}
}

// 9.1: a slot that has one keeps it, even if it is offered the same.
func TestPutTwice(t *testing.T) {
	s, want := full(t, 8)
	for at := range 8 {
		for _, e := range some {
			if f := s.Put(at, e); f != api.ErrState {
				t.Errorf("Put(%d, %v) = %d", at, e, f)
			}
		}
	}
	same(t, s, want)
}

// 9.1: a thread that is none has no slot, whether the others have one or not, and asking for it changes nothing.
func TestNoSuchThread(t *testing.T) {
	for n := 1; n <= 8; n++ {
		for _, begin := range []func(*testing.T, int) (*slot.Slots, *model){slots, full} {
			s, want := begin(t, n)
			for _, at := range append([]int{n, n + 1, -n}, none...) {
				if f := s.Put(at, some[0]); f != api.ErrArg {
					t.Errorf("Put(%d) of %d = %d", at, n, f)
				}
				if e, version, ok := s.Get(at); e != (api.Entry{}) || version != 0 || ok {
					t.Errorf("Get(%d) of %d = %v, %d, %t", at, n, e, version, ok)
				}
				for _, version := range []uint64{0, 1, 2, most} {
					if e, ok := s.Take(at, version); e != (api.Entry{}) || ok {
						t.Errorf("Take(%d, %d) of %d = %v, %t", at, version, n, e, ok)
					}
				}
			}
			same(t, s, want)
		}
	}
}

// 9.1: only the version that the slot has now fits, not one that is alike in its low or high half.
func TestTakeVersion(t *testing.T) {
	s, want := full(t, 3)
	for range 2 {
		e, version, _ := s.Get(1)
		s.Take(1, version)
		want.take(1, version)
		s.Put(1, e)
		want.put(1, e)
	}
	const now = 5
	for _, version := range []uint64{0, 1, 2, 3, 4, 6, 7, 13, now + 1<<8, now + 1<<16, now + 1<<31, now + 1<<32, now + 1<<63, most - 4, most} {
		if e, ok := s.Take(1, version); e != (api.Entry{}) || ok {
			t.Errorf("Take(1, %d) = %v, %t", version, e, ok)
		}
	}
	same(t, s, want)
	if e, ok := s.Take(1, now); e != some[1] || !ok {
		t.Errorf("Take(1, %d) = %v, %t", now, e, ok)
	}
	want.take(1, now)
	same(t, s, want)
}

// 9.1: an empty slot has nothing to be taken, though its version fits; it keeps that version.
func TestTakeEmpty(t *testing.T) {
	s, want := slots(t, 2)
	empty := func(version uint64) {
		t.Helper()
		if e, ok := s.Take(0, version); e != (api.Entry{}) || ok {
			t.Errorf("Take(0, %d) = %v, %t", version, e, ok)
		}
		same(t, s, want)
	}
	empty(0)
	for i, e := range some {
		version := uint64(2*i + 1)
		s.Put(0, e)
		want.put(0, e)
		if i%2 == 0 {
			s.Take(0, version)
			want.take(0, version)
		} else {
			s.Drop(e.ID)
			want.drop(e.ID)
		}
		empty(version)
		empty(version + 1)
	}
}

// 9.1: the version is one more at each Put, Take and Drop of the slot, and at nothing else.
func TestVersions(t *testing.T) {
	s, _ := slots(t, 2)
	version := uint64(0)
	is := func(what string) {
		t.Helper()
		_, got, _ := s.Get(0)
		_, other, _ := s.Get(1)
		if got != version || other != 0 {
			t.Fatalf("behind %s: versions %d and %d, want %d and 0", what, got, other, version)
		}
	}
	for range 500 {
		s.Put(0, some[0])
		version++
		is("Put")
		s.Put(0, some[1])
		is("a Put to one that has one")
		s.Take(0, version-1)
		s.Take(0, version+1)
		s.Drop(77)
		s.All()
		s.Threads()
		is("calls that change nothing")
		s.Take(0, version)
		version++
		is("Take")
		s.Take(0, version)
		s.Drop(some[0].ID)
		is("a Take and a Drop of nothing")
		s.Put(0, some[4])
		version++
		is("a second Put")
		s.Drop(some[4].ID)
		version++
		is("Drop")
	}
}

// 9.1: an ID is dropped wherever it stands, and nothing else with it.
func TestDrop(t *testing.T) {
	for at, e := range some {
		s, want := slots(t, 8)
		for i, other := range some {
			other.ID = 100 + i
			if i == at {
				other = e
			}
			s.Put(i, other)
			want.put(i, other)
		}
		for _, id := range ids {
			if got := s.Drop(id); got != (id == e.ID) {
				t.Errorf("Drop(%d) = %t, with %v", id, got, e)
			}
			want.drop(id)
			same(t, s, want)
		}
		if len(s.All()) != 7 {
			t.Errorf("%v is left without %v", s.All(), e)
		}
	}
}

// 9.1: of several that have the ID the first by threads, whatever their Keys and whenever they came.
func TestDropFirst(t *testing.T) {
	s, want := slots(t, 4)
	for i, at := range []int{3, 1, 2} {
		e := api.Entry{Key: uint64(i * 10), ID: 5}
		s.Put(at, e)
		want.put(at, e)
	}
	s.Put(0, some[3])
	want.put(0, some[3])
	for _, at := range []int{1, 2, 3} {
		if !s.Drop(5) {
			t.Fatalf("Drop(5) = false, with %v", s.All())
		}
		if _, version, ok := s.Get(at); version != 2 || ok {
			t.Fatalf("slot %d: version %d, %t", at, version, ok)
		}
		want.drop(5)
		same(t, s, want)
	}
	if s.Drop(5) {
		t.Error("a fourth one was dropped")
	}
	same(t, s, want)
}

// 9.1: the ID of zero is in no empty slot, neither in a new one nor in one that had it.
func TestDropZero(t *testing.T) {
	s, want := slots(t, 3)
	if s.Drop(0) {
		t.Error("0 was dropped of empty slots")
	}
	s.Put(1, api.Entry{})
	want.put(1, api.Entry{})
	if !s.Drop(0) || s.Drop(0) {
		t.Error("0 was not dropped just once")
	}
	want.drop(0)
	same(t, s, want)
	s.Put(2, some[0])
	want.put(2, some[0])
	s.Take(2, 1)
	want.take(2, 1)
	if s.Drop(some[0].ID) || s.Drop(0) {
		t.Error("what was taken was dropped")
	}
	same(t, s, want)
}

// 9.1: by threads, not in the order of what they have, nor in that in which it came.
func TestAll(t *testing.T) {
	for has := range 1 << 8 {
		s, _ := slots(t, 8)
		var want []api.Entry
		for at := 7; at >= 0; at-- {
			if has>>at&1 == 1 {
				s.Put(at, some[at])
				want = append([]api.Entry{some[at]}, want...)
			}
		}
		if got := s.All(); !slices.Equal(got, want) {
			t.Errorf("All() = %v, want %v", got, want)
		}
	}
}

// 9.1: what is answered is new memory, its spare room too.
func TestAllIsNew(t *testing.T) {
	for n := 1; n <= 8; n++ {
		s, want := full(t, n)
		kept := s.All()
		copied := slices.Clone(kept)
		got := s.All()
		got = got[:cap(got)]
		for i := range got {
			got[i] = api.Entry{Key: 4321, ID: 4321}
		}
		same(t, s, want)
		s.Drop(some[0].ID)
		s.Put(0, some[7])
		if !slices.Equal(kept, copied) {
			t.Errorf("All() turned from %v into %v", copied, kept)
		}
	}
}

// 9.2, W2: what was taken or dropped is not taken again by any version, even if the same is put there anew.
func TestOnce(t *testing.T) {
	for _, e := range some {
		s, _ := slots(t, 2)
		var seen []uint64
		for i := range 40 {
			s.Put(1, e)
			_, version, _ := s.Get(1)
			for _, old := range seen {
				if got, ok := s.Take(1, old); ok {
					t.Fatalf("%v was taken by version %d, seen ahead of the last Put", got, old)
				}
			}
			seen = append(seen, version)
			if i%3 == 0 {
				s.Drop(e.ID)
			} else if got, ok := s.Take(1, version); got != e || !ok {
				t.Fatalf("Take(1, %d) = %v, %t", version, got, ok)
			}
			for old := range version + 3 {
				if got, ok := s.Take(1, old); ok {
					t.Fatalf("%v was taken once more, by version %d", got, old)
				}
			}
			if s.Drop(e.ID) || len(s.All()) != 0 {
				t.Fatalf("what was taken is still there: %v", s.All())
			}
		}
	}
}

// 9.2, W2: of several that looked at one slot only the first gets it, whoever they are.
func TestOneOfSeveral(t *testing.T) {
	s, _ := full(t, 8)
	for at := range 8 {
		_, version, _ := s.Get(at)
		won := 0
		for range 8 {
			if _, ok := s.Take(at, version); ok {
				won++
			}
		}
		if won != 1 {
			t.Errorf("slot %d was taken %d times", at, won)
		}
	}
	if got := s.All(); len(got) != 0 {
		t.Errorf("All() = %v", got)
	}
}

// 9.1: one knows nothing of another.
func TestTwo(t *testing.T) {
	a, wantA := full(t, 3)
	b, wantB := full(t, 3)
	a.Take(1, 1)
	wantA.take(1, 1)
	b.Drop(some[0].ID)
	wantB.drop(some[0].ID)
	same(t, a, wantA)
	same(t, b, wantB)
}

// kinds is how many calls play knows.
const kinds = 22

// play does to both the call that the number says, of two threads and of two that are none; it tells whether they answered alike.
func play(s *slot.Slots, want *model, call int) bool {
	switch {
	case call < 8:
		e := some[call/4*2]
		return s.Put(call%4-1, e) == want.put(call%4-1, e)
	case call < 20:
		at := (call - 8) % 4
		version := uint64((call-8)/4 + 1)
		e, ok := s.Take(at-1, version)
		wantE, wantOk := want.take(at-1, version)
		return e == wantE && ok == wantOk
	default:
		id := some[(call-20)*2].ID
		return s.Drop(id) == want.drop(id)
	}
}

// 9.1: every row of a few calls, held against the model at its end.
func TestRows(t *testing.T) {
	const long = 4
	rows := 1
	for n := 1; n <= long; n++ {
		rows *= kinds
		for row := range rows {
			s, want := slots(t, 2)
			for left, i := row, 0; i < n; i++ {
				if !play(s, want, left%kinds) {
					t.Fatalf("row %d of %d: call %d told wrong", row, n, i)
				}
				left /= kinds
			}
			same(t, s, want)
		}
	}
}

// 9.1: long rows upon all numbers of threads, with the version that fits, the one ahead of it and the one behind it.
func TestLongRows(t *testing.T) {
	draw := uint64(1)
	next := func(n int) int {
		draw = draw*6364136223846793005 + 1442695040888963407
		return int(draw >> 33 % uint64(n))
	}
	for n := 1; n <= 8; n++ {
		s, want := slots(t, n)
		for range 600 {
			at, e := next(n+2)-1, some[next(len(some))]
			switch next(4) {
			case 0, 1:
				if got, f := s.Put(at, e), want.put(at, e); got != f {
					t.Fatalf("Put(%d, %v) = %d, want %d", at, e, got, f)
				}
			case 2:
				_, version, _ := want.get(at)
				version += uint64(next(3)) - 1
				got, ok := s.Take(at, version)
				if wantE, wantOk := want.take(at, version); got != wantE || ok != wantOk {
					t.Fatalf("Take(%d, %d) = %v, %t, want %v, %t", at, version, got, ok, wantE, wantOk)
				}
			case 3:
				id := ids[next(len(ids))]
				if got, ok := s.Drop(id), want.drop(id); got != ok {
					t.Fatalf("Drop(%d) = %t, want %t", id, got, ok)
				}
			}
			same(t, s, want)
		}
	}
}

// 9.3: raw numbers are answered, whatever was done ahead of them.
func FuzzCalls(f *testing.F) {
	f.Add([]byte{1, 2, 12, 20}, 1, 0, uint64(1), uint64(5), 2)
	f.Add([]byte{0, 8, 1, 9, 5, 13, 21}, 8, 7, uint64(0), uint64(0), 0)
	f.Add([]byte{}, 9, math.MinInt, uint64(most), uint64(most), math.MinInt)
	f.Add([]byte{5, 5, 5}, math.MinInt, math.MaxInt, uint64(1<<63), uint64(most), math.MaxInt)
	f.Fuzz(func(t *testing.T, row []byte, threads, at int, version, key uint64, id int) {
		s, fault := slot.New(threads)
		if threads < 1 || threads > 8 {
			if s != nil || fault != api.ErrArg {
				t.Fatalf("New(%d) = %v, %d", threads, s, fault)
			}
			return
		}
		want := &model{threads: threads}
		for _, x := range row[:min(len(row), 64)] {
			if !play(s, want, int(x)%kinds) {
				t.Fatalf("call %d told wrong", int(x)%kinds)
			}
		}
		e := api.Entry{Key: key, ID: id}
		if got, f := s.Put(at, e), want.put(at, e); got != f {
			t.Fatalf("Put(%d, %v) = %d, want %d", at, e, got, f)
		}
		same(t, s, want)
		got, ok := s.Take(at, version)
		if wantE, wantOk := want.take(at, version); got != wantE || ok != wantOk {
			t.Fatalf("Take(%d, %d) = %v, %t, want %v, %t", at, version, got, ok, wantE, wantOk)
		}
		if got, ok := s.Drop(id), want.drop(id); got != ok {
			t.Fatalf("Drop(%d) = %t, want %t", id, got, ok)
		}
		same(t, s, want)
	})
}
