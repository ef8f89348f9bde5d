package work_test

import (
	"fmt"
	"slices"
	"testing"

	"verger/api"
	"verger/core"
	"verger/work"
)

// plain is a step as the chapter tells it, sentence by sentence, by the core's calls.
func plain(c *core.Core, w api.Worker, t int, draw uint64) (api.Worker, int) {
	if t < 0 || t >= c.Conf().Threads {
		return w, api.DIdle
	}
	if w.Phase == api.PIdle {
		if c.Settle(t) {
			return w, api.DSettle
		}
		e, ok := c.Look(t, draw)
		if !ok {
			return w, api.DIdle
		}
		return api.Worker{Phase: api.PClaim, E: e, PC: w.PC, Bad: w.Bad}, api.DLook
	}
	if w.Phase == api.PClaim {
		if c.Claim(t, w.E) == api.OK {
			return api.Worker{Phase: api.PRun, E: w.E}, api.DClaim
		}
		return api.Worker{}, api.DMiss
	}
	if w.Phase != api.PRun {
		return w, api.DIdle
	}
	if body := c.Body(w.E.ID); !w.Bad && w.PC >= 0 && w.PC < len(body) {
		o := body[w.PC]
		call(c, t, o)
		return api.Worker{Phase: api.PRun, E: w.E, PC: w.PC + 1, Bad: o.Kind == api.BPanic}, api.DOp
	}
	c.Finish(t, w.E.ID, !w.Bad)
	return api.Worker{}, api.DFinish
}

// crew is a core and its workers, beside a twin of both that goes by plain.
type crew struct {
	c, twin      *core.Core
	hands, other []api.Worker
	did          [7]int
}

// hire makes a crew; begin is done to both cores.
func hire(t *testing.T, conf api.Conf, begin func(c *core.Core)) *crew {
	t.Helper()
	x := &crew{c: made(t, conf), twin: made(t, conf), hands: make([]api.Worker, conf.Threads), other: make([]api.Worker, conf.Threads)}
	x.both(begin)
	return x
}

func (x *crew) both(do func(c *core.Core)) {
	do(x.c)
	do(x.twin)
}

// pick lets a worker step, and its twin.
func (x *crew) pick(t *testing.T, by int, draw uint64) {
	t.Helper()
	was, n := x.hands[by], len(x.c.Events())
	w, did := work.Step(x.c, was, by, draw)
	v, want := plain(x.twin, x.other[by], by, draw)
	if w != v || did != want {
		t.Fatalf("Step of %+v by %d: %+v, %d, want %+v, %d", was, by, w, did, v, want)
	}
	x.hands[by], x.other[by] = w, v
	x.did[did]++
	x.once(t, was, did, n)
}

// once holds that a step touches the core once: what it puts down is of one call.
func (x *crew) once(t *testing.T, was api.Worker, did, from int) {
	t.Helper()
	var kinds []int
	for _, e := range x.c.Events()[from:] {
		kinds = append(kinds, e.Kind)
	}
	right := len(kinds) == 0
	switch did {
	case api.DLook:
		right = slices.Equal(kinds, []int{api.ELook})
	case api.DClaim:
		right = slices.Equal(kinds, []int{api.EClaim})
	case api.DOp:
		right = !slices.ContainsFunc(kinds, func(k int) bool {
			return k != api.EMake && k != api.ERelease && k != api.ECancel
		})
	case api.DFinish:
		right = right || kinds[0] >= api.EDone && kinds[0] <= api.EAgain
	}
	if !right {
		t.Fatalf("step %d of %+v tells %v", did, was, kinds)
	}
}

// alike holds the core against its twin.
func (x *crew) alike(t *testing.T) {
	t.Helper()
	if got, want := picture(x.c), picture(x.twin); got != want {
		t.Fatalf("%s\nwant\n%s", got, want)
	}
}

// idle tells whether all workers are idle and nothing is ready.
func (x *crew) idle() bool {
	for _, w := range x.hands {
		if !work.Idle(w) {
			return false
		}
	}
	return !slices.ContainsFunc(x.c.State().Tasks, func(y api.Task) bool { return y.State == api.SReady })
}

// rest lets all workers step in turn until they are idle, within a bound of picks: a worker needs five steps and its ops for a task, and five more.
func (x *crew) rest(t *testing.T) {
	t.Helper()
	threads := x.c.Conf().Threads
	for n := 0; !x.idle(); n++ {
		if n > threads*(api.MaxTasks*(api.MaxOps+5)+5) {
			t.Fatalf("still at it: %+v\n%s", x.hands, picture(x.c))
		}
		x.pick(t, n%threads, uint64(n))
	}
}

// lives holds that each task is claimed once for each release, and not ahead of it, and ends once.
func (x *crew) lives(t *testing.T) {
	t.Helper()
	state := map[int]int{}
	from := map[int][]int{
		api.ERelease: {api.SWaiting}, api.EClaim: {api.SReady}, api.EDone: {api.SClaimed}, api.EFail: {api.SClaimed},
		api.EAgain: {api.SClaimed}, api.ECancel: {api.SWaiting, api.SReady},
	}
	to := map[int]int{
		api.EMake: api.SWaiting, api.ERelease: api.SReady, api.EClaim: api.SClaimed, api.EDone: api.SDone,
		api.EFail: api.SFailed, api.EAgain: api.SWaiting, api.ECancel: api.SCancelled,
	}
	for i, e := range x.c.Events() {
		if ahead, ok := from[e.Kind]; ok && !slices.Contains(ahead, state[e.ID]) {
			t.Fatalf("event %d, %+v, of a task of state %d", i, e, state[e.ID])
		}
		if next, ok := to[e.Kind]; ok {
			state[e.ID] = next
		}
	}
}

// rows goes through all rows of so many numbers below n.
func rows(n, depth int, each func(row []int)) {
	row := make([]int, depth)
	for {
		each(row)
		i := 0
		for i < depth && row[i] == n-1 {
			row[i] = 0
			i++
		}
		if i == depth {
			return
		}
		row[i]++
	}
}

// scenes are beginnings for two threads.
func scenes() map[string]func(c *core.Core) {
	return map[string]func(c *core.Core){
		"one for two": func(c *core.Core) { c.Submit(0, 0, []api.Op{{Kind: api.BNop}}, nil) },
		"two and two": func(c *core.Core) {
			c.Submit(0, 2, nil, nil)
			c.Submit(1, 0, []api.Op{{Kind: api.BSubmit, A: 1}}, nil)
			c.Submit(1, 1, []api.Op{{Kind: api.BCancel, A: 1}}, nil)
		},
		"a panic": func(c *core.Core) {
			c.Submit(0, 0, []api.Op{{Kind: api.BPanic}, {Kind: api.BNop}}, nil)
			c.Submit(1, 0, nil, []int{1})
			c.Submit(1, 0, []api.Op{{Kind: api.BAfter, A: 1}}, nil)
		},
		"again": func(c *core.Core) {
			c.Every(0, 0, []api.Op{{Kind: api.BAfter, A: 2, B: 1}}, 0, 1)
			c.Submit(1, 0, []api.Op{{Kind: api.BCancel, A: 1}}, nil)
		},
	}
}

// W1, W2, 19.1: every schedule of nine picks of two workers, and between them a cancel and a tick where the row says so; then all goes on to its end.
func TestEverySchedule(t *testing.T) {
	for name, begin := range scenes() {
		t.Run(name, func(t *testing.T) {
			var did [7]int
			for _, at := range []int{3, 6, 9} {
				rows(2, 9, func(row []int) {
					x := hire(t, api.Conf{Threads: 2, K: at % 2, Credits: 6}, begin)
					for i, by := range row {
						if i == at {
							x.both(func(c *core.Core) { c.Cancel(2); c.Advance(1, 1) })
						}
						x.pick(t, by, uint64(i))
					}
					x.alike(t)
					x.rest(t)
					x.alike(t)
					x.lives(t)
					for kind, n := range x.did {
						did[kind] += n
					}
				})
			}
			if slices.Contains(did[:], 0) {
				t.Errorf("what was done: %v", did)
			}
		})
	}
}

// source is a row of numbers that looks drawn.
type source uint64

func (s *source) draw(n int) int {
	*s ^= *s << 13
	*s ^= *s >> 7
	*s ^= *s << 17
	return int(uint64(*s) >> 11 % uint64(n))
}

// ops is a drawn body.
func (s *source) ops() []api.Op {
	var l []api.Op
	for range s.draw(7) * s.draw(3) {
		l = append(l, []api.Op{
			{Kind: api.BNop}, {Kind: api.BNop}, {Kind: api.BSubmit, A: s.draw(8)}, {Kind: api.BAfter, A: s.draw(8), B: s.draw(4)},
			{Kind: api.BCancel, A: 1 + s.draw(60)}, {Kind: api.BPanic},
		}[s.draw(6)])
	}
	return l
}

// disturb does to both cores something that no worker does.
func (s *source) disturb(x *crew) {
	by, prio, l := s.draw(x.c.Conf().Threads), s.draw(8), s.ops()
	id, n := 1+s.draw(len(x.c.State().Tasks)+1), uint64(s.draw(4))
	switch s.draw(6) {
	case 0:
		x.both(func(c *core.Core) { c.Cancel(id) })
	case 1:
		x.both(func(c *core.Core) { c.Advance(by, n) })
	case 2:
		x.both(func(c *core.Core) { c.Every(by, prio, l, n, 3) })
	case 3:
		x.both(func(c *core.Core) { c.Submit(by, prio, l, []int{id}) })
	default:
		x.both(func(c *core.Core) { c.Submit(by, prio, l, nil) })
	}
}

// W1, W2, 19.1, 19.3: long rows of picks, with tasks that are let in and cancelled, and time that goes on; behind a Shutdown all comes to its end.
func TestDrawnSchedules(t *testing.T) {
	s := source(20261118)
	for range 40 {
		conf := api.Conf{Threads: 1 + s.draw(8), K: s.draw(5), Credits: 1 + s.draw(64)}
		x := hire(t, conf, func(*core.Core) {})
		for range 500 {
			if s.draw(9) == 0 {
				s.disturb(x)
			}
			x.pick(t, s.draw(conf.Threads), uint64(s.draw(1<<40)))
		}
		x.alike(t)
		x.both(func(c *core.Core) { c.Shutdown() })
		x.rest(t)
		x.alike(t)
		x.lives(t)
		if !x.c.Drained() || x.c.State().Free != conf.Credits {
			t.Fatalf("%+v: not drained\n%s", conf, picture(x.c))
		}
	}
}

// odd is a drawn worker, as nobody would make it.
func (s *source) odd(c *core.Core) api.Worker {
	id := s.draw(len(c.State().Tasks) + 2)
	w := api.Worker{Phase: s.draw(5) - 1, E: api.Entry{Key: keyOf(c, id), ID: id}, PC: s.draw(5) - 1, Bad: s.draw(4) == 0}
	switch s.draw(9) {
	case 0:
		w.Phase = wild[s.draw(len(wild))]
	case 1:
		w.E.ID = wild[s.draw(len(wild))]
	case 2:
		w.PC = wild[s.draw(len(wild))]
	case 3:
		w.E.Key = uint64(s.draw(9))
	}
	return w
}

// W1, W10, 19.3: workers that nobody would make, of threads that need not be, are answered, and as the chapter says.
func TestOddWorkers(t *testing.T) {
	s := source(4711)
	for range 40 {
		x := hire(t, api.Conf{Threads: 3, K: 1, Credits: 30}, func(*core.Core) {})
		for range 200 {
			if s.draw(4) == 0 {
				s.disturb(x)
			}
			w, by, draw := s.odd(x.c), s.draw(4)-s.draw(2), uint64(s.draw(1000))
			got, did := work.Step(x.c, w, by, draw)
			then, want := plain(x.twin, w, by, draw)
			if got != then || did != want {
				t.Fatalf("Step of %+v by %d: %+v, %d, want %+v, %d", w, by, got, did, then, want)
			}
		}
		x.alike(t)
	}
}

// 19.3: any bytes as picks, draws and workers are answered, and as the chapter says.
func FuzzSteps(f *testing.F) {
	f.Add([]byte("let in by their urgency"))
	f.Add([]byte{0, 1, 0, 1, 2, 3, 255, 254, 128, 127})
	f.Fuzz(func(t *testing.T, b []byte) {
		s := source(1)
		x := hire(t, api.Conf{Threads: 2, K: 1, Credits: 8}, func(*core.Core) {})
		for _, y := range b[:min(len(b), 300)] {
			s ^= source(y) << 20
			switch by := int(y) % 2; int(y) / 2 % 8 {
			case 0:
				s.disturb(x)
			case 1:
				x.hands[by] = s.odd(x.c)
				x.other[by] = x.hands[by]
			default:
				w, did := work.Step(x.c, x.hands[by], by, uint64(y))
				v, want := plain(x.twin, x.other[by], by, uint64(y))
				hold(t, "Step", fmt.Sprint(w, did), fmt.Sprint(v, want))
				x.hands[by], x.other[by] = w, v
			}
		}
		x.alike(t)
	})
}
