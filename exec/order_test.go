package exec_test

import (
	"maps"
	"math"
	"slices"
	"testing"

	"verger/api"
	"verger/core"
	"verger/exec"
)

// wait is a task that is ready: its Key, its slack, the place of the event that released it (from 1 on), and how many that were released behind it have been claimed since.
type wait struct {
	key, slack    uint64
	since, passed int
}

// ledger is what a row of events comes to: the state of each task, what is ready, and what was ready as each worker looked last. far is how many lesser ones a claim has passed over at most, late how many above its slack have gone ahead of a task at most.
type ledger struct {
	state       map[int]int
	ready       map[int]wait
	seen        map[int]map[int]wait
	claims, now uint64
	far, late   int
}

// turns has for each kind of event the states of which its task may be, and the state that it comes to then.
var turns = map[int]struct {
	from []int
	to   int
}{
	api.EMake:    {[]int{api.SFree}, api.SWaiting},
	api.ERelease: {[]int{api.SWaiting}, api.SReady},
	api.ELook:    {[]int{api.SReady}, api.SReady},
	api.EClaim:   {[]int{api.SReady}, api.SClaimed},
	api.EDone:    {[]int{api.SClaimed}, api.SDone},
	api.EFail:    {[]int{api.SClaimed}, api.SFailed},
	api.EAgain:   {[]int{api.SClaimed}, api.SWaiting},
	api.ECancel:  {[]int{api.SWaiting, api.SReady}, api.SCancelled},
	api.ETick:    {[]int{api.SFree}, api.SFree},
	api.EClose:   {[]int{api.SFree}, api.SFree},
}

// read goes along a row of events, and fails where one may not be: each must follow from those ahead of it, so that a task is claimed once for each release.
func read(t *testing.T, l []api.Event) *ledger {
	t.Helper()
	b := &ledger{state: map[int]int{}, ready: map[int]wait{}, seen: map[int]map[int]wait{}}
	for i, e := range l {
		turn, ok := turns[e.Kind]
		keyed := e.Kind != api.EClaim && e.Kind != api.ELook || e.Key == b.ready[e.ID].key
		if !ok || !keyed || !slices.Contains(turn.from, b.state[e.ID]) || e.Ticket != b.claims || e.Now < b.now {
			t.Fatalf("event %d, %+v, of a task of state %d", i, e, b.state[e.ID])
		}
		b.now, b.state[e.ID] = e.Now, turn.to
		switch e.Kind {
		case api.ERelease:
			b.ready[e.ID] = wait{key: e.Key, slack: e.Key - e.Ticket, since: i + 1}
		case api.ELook:
			b.seen[e.T] = maps.Clone(b.ready)
		case api.EClaim:
			b.claim(e)
		case api.ECancel:
			delete(b.ready, e.ID)
		}
	}
	return b
}

// claim counts whom a claim passes over, and whom it goes ahead of though it was released later.
func (b *ledger) claim(e api.Event) {
	mine := b.ready[e.ID]
	delete(b.ready, e.ID)
	b.claims++
	over := 0
	for id, w := range b.ready {
		if isLess := w.key < e.Key || w.key == e.Key && id < e.ID; isLess && b.seen[e.T][id].since == w.since {
			over++
		}
		if w.since < mine.since {
			w.passed++
			b.ready[id] = w
			b.late = max(b.late, w.passed-int(w.slack))
		}
	}
	b.far = max(b.far, over)
}

// W2, W3: what a machine tells is one row of events that may be, however it is picked; nothing is claimed ahead of its due tick.
func TestEventsAreOneRow(t *testing.T) {
	s := source(1234567)
	for range 20 {
		seen := 0
		x, _ := season(t, &s, func(x *pair) {
			state, l := x.m.Core().State(), x.m.Core().Events()
			for _, e := range l[seen:] {
				if e.Kind == api.EClaim && state.Tasks[e.ID-1].State == api.SClaimed && state.Tasks[e.ID-1].Due > e.Now {
					t.Fatalf("%+v of %+v", e, state.Tasks[e.ID-1])
				}
			}
			seen = len(l)
		})
		b := read(t, x.m.Core().Events())
		for _, task := range x.m.Core().State().Tasks {
			hold(t, "state", b.state[task.ID], task.State)
		}
		hold(t, "ticket", x.m.Core().State().Ticket, b.claims)
	}
}

// W2: nothing is claimed ahead of its predecessors' being done.
func TestNothingAheadOfItsPreds(t *testing.T) {
	s, most := source(496), 0
	for range 20 {
		x, preds := season(t, &s, func(*pair) {})
		done := map[int]int{}
		for _, e := range x.m.Core().Events() {
			if e.Kind == api.EDone {
				done[e.ID]++
			}
			if e.Kind != api.EClaim {
				continue
			}
			for _, pred := range preds[e.ID] {
				most++
				if done[pred] == 0 {
					t.Fatalf("%+v ahead of %d", e, pred)
				}
			}
		}
	}
	if most == 0 {
		t.Error("none with a predecessor is claimed")
	}
}

// W3: what a pick answers is what it tells: each event that a worker makes is of that pick, and of its thread.
func TestAnswersFollowEvents(t *testing.T) {
	s := source(5050)
	for range 10 {
		x, _ := season(t, &s, func(*pair) {})
		threads := x.m.Core().Conf().Threads
		for range 200 {
			pick, n := s.word(), len(x.m.Core().Events())
			by := int(pick % uint64(threads))
			was, did := worker(t, x.m, by), x.m.Pick(pick, s.word())
			follows(t, x.m.Core().Events()[n:], by, was, did)
		}
	}
}

// follows holds what was told by one pick against what it answered.
func follows(t *testing.T, l []api.Event, by int, was api.Worker, did int) {
	t.Helper()
	right := len(l) == 0
	switch did {
	case api.DLook:
		right = len(l) == 1 && l[0].Kind == api.ELook && l[0].T == by
	case api.DClaim:
		right = len(l) == 1 && l[0].Kind == api.EClaim && l[0].T == by && l[0].ID == was.E.ID
	case api.DOp:
		right = !slices.ContainsFunc(l, func(e api.Event) bool {
			return e.Kind != api.EMake && e.Kind != api.ECancel && (e.Kind != api.ERelease || e.T != by)
		})
	case api.DFinish:
		right = len(l) > 0 && l[0].Kind >= api.EDone && l[0].Kind <= api.EAgain && l[0].T == by && l[0].ID == was.E.ID
	}
	if !right {
		t.Fatalf("%d by %d, %+v, tells %+v", did, by, was, l)
	}
}

// W4, W5: what workers claim passes over no more lesser ones than Rho, which is (threads + 1) k + threads; of what is released behind a task at most Beta are claimed ahead of it: its slack, the credits and twice the threads. That there are such ones is held, too.
func TestNotFarFromOrder(t *testing.T) {
	s := source(31337)
	far, late := 0, math.MinInt
	for range 40 {
		x, _ := season(t, &s, func(*pair) {})
		conf, b := x.m.Core().Conf(), read(t, x.m.Core().Events())
		if rho := (conf.Threads+1)*conf.K + conf.Threads; b.far > rho {
			t.Fatalf("%v: %d are passed over, Rho is %d", conf, b.far, rho)
		}
		if beta := conf.Credits + 2*conf.Threads; b.late > beta {
			t.Fatalf("%v: %d above its slack are ahead of one, Beta is %d", conf, b.late, beta)
		}
		far, late = max(far, b.far), max(late, b.late)
	}
	if far == 0 || late <= 0 {
		t.Errorf("at most %d are passed over, %d are late", far, late)
	}
}

// W6: behind each call a credit is out for each task that is not over, and ErrFull is told only if all are out.
func TestCredits(t *testing.T) {
	s := source(6174)
	for range 15 {
		season(t, &s, func(x *pair) {
			c := x.m.Core()
			out := 0
			for _, state := range []int{api.SWaiting, api.SReady, api.SClaimed} {
				out += len(inState(c, state))
			}
			if free := c.State().Free; free < 0 || out+free != c.Conf().Credits {
				t.Fatalf("%d are not over, %d credits are free", out, free)
			}
		})
	}
	m := made(t, api.Conf{Threads: 2, K: 1, Credits: 2})
	submit(t, m, 1, 0, 0)
	submit(t, m, 2, 1, 0)
	for m.Core().Status(1) != api.SDone && m.Core().Status(2) != api.SDone {
		if id, e := m.Core().Submit(0, 0, nil, nil); id != 0 || e != api.ErrFull {
			t.Fatalf("%d, %d, want ErrFull", id, e)
		}
		m.Round(0)
	}
	submit(t, m, 3, 0, 0)
}

// phi is within how many picks all must be over: threads times (tasks times (ops and 5), and 5).
func phi(threads, tasks, ops int) int {
	return threads * (tasks*(ops+5) + 5)
}

// longest is how many ops the longest of all bodies has.
func longest(c *core.Core) int {
	n := 0
	for _, x := range c.State().Tasks {
		n = max(n, len(c.Body(x.ID)))
	}
	return n
}

// order is a drawn order of all workers.
func (s *source) order(threads int) []int {
	l := make([]int, threads)
	for i := range l {
		at := s.draw(i + 1)
		l[i], l[at] = l[at], i
	}
	return l
}

// over tells whether nothing is ready, and no worker has anything in hand.
func over(m *exec.Machine) bool {
	for by := range m.Core().Conf().Threads {
		if w, _ := m.Worker(by); w.Phase != api.PIdle {
			return false
		}
	}
	return len(inState(m.Core(), api.SReady)) == 0
}

// W7: where every worker steps in each round, in whatever order and with whatever draws, all that is ready, and all that this releases, is over within Phi picks.
func TestItGoesOn(t *testing.T) {
	s := source(42)
	for n := range 60 {
		x, preds := season(t, &s, func(*pair) {})
		for range 30 {
			s.let(x, preds)
		}
		c, threads := x.m.Core(), x.m.Core().Conf().Threads
		begun := inState(c, api.SReady)
		row, draw, picks := s.order(threads), s.word(), 0
		for !over(x.m) && picks <= 1<<20 {
			if n%3 > 0 {
				row = s.order(threads)
			}
			for _, by := range row {
				if n%2 > 0 {
					draw = s.word()
				}
				x.m.Pick(uint64(by), draw)
				picks++
			}
		}
		if most := phi(threads, len(c.State().Tasks), longest(c)); picks > most {
			t.Fatalf("%v: %d picks, Phi is %d", c.Conf(), picks, most)
		}
		for _, e := range begun {
			if state := c.Status(e.ID); state == api.SReady || state == api.SClaimed {
				t.Fatalf("%d is of state %d", e.ID, state)
			}
		}
	}
}

// W7, 20.1: as many tasks as may be, of as many ops as may be: a Rest has them over within Phi picks, for all numbers of threads.
func TestAllThatMayBe(t *testing.T) {
	for threads := 1; threads <= api.MaxThreads; threads++ {
		for _, k := range []int{0, 3, api.MaxK} {
			m := made(t, api.Conf{Threads: threads, K: k, Credits: api.MaxCredits})
			ops := slices.Repeat([]api.Op{{Kind: api.BNop}}, api.MaxOps)
			for n := range 8 {
				ops[n+4] = api.Op{Kind: api.BSubmit, A: n}
			}
			for n := range api.MaxCredits {
				submit(t, m, n+1, n%threads, n%8, ops...)
			}
			for m.Core().Status(api.MaxTasks) == api.SFree {
				if n, ok := m.Rest(api.MaxTasks*21, 11); !ok || n == 0 {
					t.Fatalf("Rest: %d, %t", n, ok)
				}
				m.Core().Submit(0, 7, ops, nil)
			}
			m.Rest(api.MaxTasks*21, 11)
			if most := phi(threads, api.MaxTasks, api.MaxOps); m.Picks() > most || len(inState(m.Core(), api.SDone)) != api.MaxTasks {
				t.Errorf("%d threads: %d picks, Phi is %d, %d done", threads, m.Picks(), most, len(inState(m.Core(), api.SDone)))
			}
			read(t, m.Core().Events())
		}
	}
}
