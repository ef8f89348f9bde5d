package wheel

import (
	"math"
	"math/bits"
	"slices"
	"testing"

	"verger/api"
)

// edges has ticks about the bounds of every level.
var edges = []uint64{0, 1, 63, 64, 4095, 4096, 1<<18 - 1, 1 << 18, 1<<24 - 1, 1 << 24, 1<<24 + 4096, 1 << 30, 1<<63 - 1, 1 << 63, math.MaxUint64 - 1<<24, math.MaxUint64 - 64, math.MaxUint64}

// draws gives numbers of all lengths, the same each time.
func draws(state uint64) func() uint64 {
	next := func() uint64 {
		state = state*6364136223846793005 + 1442695040888963407
		return state >> 32
	}
	return func() uint64 {
		word := next()<<32 | next()
		return word >> (next() % 64)
	}
}

// standing goes by how many whole slots lie between, not by the bits that differ: a timer is in the lowest level whose slots, taken as one, are the same for it and for now.
func standing(due, now uint64) (level int, slot uint64) {
	at := max(due, now)
	width := uint64(1)
	for level = range 4 {
		if at/width/64 == now/width/64 {
			return level, at / width % 64
		}
		width *= 64
	}
	return 4, 0
}

// holdPlaces tells where a timer stands that should not, and whether a level's bits say what it has.
func holdPlaces(t *testing.T, w *Wheel) {
	t.Helper()
	n := len(w.far)
	for level := range w.rings {
		r := &w.rings[level]
		for slot, l := range r.slots {
			if used := r.used>>slot&1 == 1; used != (len(l) > 0) {
				t.Fatalf("level %d, slot %d: %v, used: %t", level, slot, l, used)
			}
			n += len(l)
			for _, x := range l {
				if at, in := standing(x.Due, w.now); at != level || in != uint64(slot) {
					t.Fatalf("at %d: %v in level %d, slot %d, want %d, %d", w.now, x, level, slot, at, in)
				}
			}
		}
	}
	for _, x := range w.far {
		if at, _ := standing(x.Due, w.now); at != levels {
			t.Fatalf("at %d: %v is far, want level %d", w.now, x, at)
		}
	}
	if !slices.IsSortedFunc(w.far, order) || n != len(w.dues) {
		t.Fatalf("at %d: %d stand, of %d; far %v", w.now, n, len(w.dues), w.far)
	}
}

// 12.2: four levels of 64 slots.
func TestShape(t *testing.T) {
	w := New(0)
	if len(w.rings) != 4 || len(w.rings[0].slots) != 64 {
		t.Errorf("%d levels of %d slots", len(w.rings), len(w.rings[0].slots))
	}
}

// 12.2: each timer stands in its slot, or far, after every call.
func TestPlaces(t *testing.T) {
	draw := draws(3)
	for _, now := range edges {
		for range 40 {
			w := New(now)
			for range 200 {
				id := int(draw()%40) + 1
				switch draw() % 4 {
				case 0, 1:
					w.Add(id, w.now+draw())
				case 2:
					w.Cancel(id)
				default:
					w.Advance(w.now + draw()>>(draw()%64))
				}
				holdPlaces(t, w)
			}
		}
	}
}

// 12.2: no leap comes to more than 300 slots, and each is one bit, so none is looked at twice. Every slot that has something due, or something that moves down, is among them, and none that has something else.
func TestPassed(t *testing.T) {
	draw := draws(5)
	check := func(now, then uint64) {
		masks, n := passed(now, then), 0
		for _, mask := range masks {
			n += bits.OnesCount64(mask)
		}
		if n > 300 {
			t.Fatalf("from %d to %d: %d slots", now, then, n)
		}
		for range 30 {
			due := max(now, now+draw())
			level, slot := standing(due, now)
			if level == levels {
				continue
			}
			after, _ := standing(due, then)
			meets := due <= then || after < level
			if got := masks[level]>>slot&1 == 1; got != meets {
				t.Fatalf("from %d to %d: slot %d of level %d: %t, want %t", now, then, slot, level, got, meets)
			}
		}
	}
	for _, now := range edges {
		for _, then := range edges {
			check(now, max(now, then))
		}
	}
	for range 50000 {
		now := draw()
		check(now, max(now, now+draw()))
	}
}

// spoilStaying puts wrong timers, due at once, in the place of all that neither are due by then nor move down, and answers how many. The first far one stays as it is: it is how far the far list is looked at.
func spoilStaying(w *Wheel, then uint64) int {
	n := 0
	spoil := func(l []api.Timer) {
		for i := range l {
			n++
			l[i] = api.Timer{Due: 0, ID: -n}
		}
	}
	for level := range w.rings {
		for _, l := range w.rings[level].slots {
			if len(l) == 0 {
				continue
			}
			if after, _ := standing(l[0].Due, then); l[0].Due > then && after == level {
				spoil(l)
			}
		}
	}
	stays := slices.IndexFunc(w.far, func(x api.Timer) bool {
		after, _ := standing(x.Due, then)
		return x.Due > then && after == levels
	})
	if stays >= 0 {
		spoil(w.far[stays+1:])
	}
	return n
}

// 12.2: what is neither due nor moves down is not looked at: wrong ones that stand there instead are not found.
func TestStayingIsNotLookedAt(t *testing.T) {
	draw := draws(7)
	spoiled := 0
	for _, now := range edges {
		for range 400 {
			w := New(now)
			for id := range 200 {
				w.Add(id+1, max(now, now+draw()))
			}
			then := max(now, now+draw())
			n := spoilStaying(w, then)
			spoiled += n
			for _, x := range w.Advance(then) {
				if x.ID < 1 {
					t.Fatalf("from %d to %d: %v was looked at", now, then, x)
				}
			}
			for _, x := range w.All() {
				if x.ID < 1 {
					n--
				}
			}
			if n != 0 {
				t.Fatalf("from %d to %d: %d that stay are gone", now, then, n)
			}
		}
	}
	if spoiled < 100000 {
		t.Errorf("only %d were spoiled", spoiled)
	}
}

// What is gone is not kept: no slot holds memory when all were told or cancelled.
func TestNothingIsKept(t *testing.T) {
	draw := draws(9)
	w := New(77)
	for id := 1; id <= 1000; id++ {
		w.Add(id, draw())
	}
	for id := 1; id <= 1000; id += 2 {
		w.Cancel(id)
	}
	w.Advance(math.MaxUint64)
	if len(w.dues)+len(w.far) != 0 {
		t.Errorf("%d, %d are kept", len(w.dues), len(w.far))
	}
	for level := range w.rings {
		for slot, l := range w.rings[level].slots {
			if l != nil {
				t.Errorf("level %d, slot %d is kept", level, slot)
			}
		}
	}
}
