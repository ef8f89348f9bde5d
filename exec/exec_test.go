package exec_test

import (
	"fmt"
	"math"
	"math/big"
	"testing"

	"verger/api"
	"verger/core"
	"verger/exec"
)

// wild has numbers that are no thread, no k, and no credits.
var wild = []int{-1, -2, 17, 65, 201, 1 << 20, 1<<32 + 1, 1<<61 + 1, math.MaxInt32, math.MinInt32, math.MaxInt, math.MinInt}

// words has words whose upper bits tell: some of them are no whole number, and some of which are below 0 when they are cut.
var words = []uint64{
	0, 1, 2, 3, 4, 5, 6, 7, 8, 9, 63, 64, 1<<31 - 1, 1 << 31, 1<<32 - 1, 1 << 32, 1<<32 + 5, 1 << 40,
	1<<63 - 1, 1 << 63, 1<<63 + 1, 1<<63 + 6, math.MaxUint64 - 7, math.MaxUint64 - 1, math.MaxUint64,
}

func made(t *testing.T, conf api.Conf) *exec.Machine {
	t.Helper()
	m, e := exec.New(conf)
	if m == nil || e != api.OK {
		t.Fatalf("New(%v) = %v, %d", conf, m, e)
	}
	return m
}

// submit makes the n-th task.
func submit(t *testing.T, m *exec.Machine, n, by, prio int, ops ...api.Op) {
	t.Helper()
	if id, e := m.Core().Submit(by, prio, ops, nil); id != n || e != api.OK {
		t.Fatalf("%d, %d, want the id %d", id, e, n)
	}
}

func hold(t *testing.T, what string, got, want any) {
	t.Helper()
	if g, w := fmt.Sprint(got), fmt.Sprint(want); g != w {
		t.Errorf("%s: %s, want %s", what, g, w)
	}
}

// worker is the worker of a thread that must be.
func worker(t *testing.T, m *exec.Machine, by int) api.Worker {
	t.Helper()
	w, ok := m.Worker(by)
	if !ok {
		t.Fatalf("Worker(%d) is none", by)
	}
	return w
}

// rest is a Rest that must come to that.
func rest(t *testing.T, m *exec.Machine, most, rounds int, quiet bool) {
	t.Helper()
	picks := m.Picks()
	if n, ok := m.Rest(most, 0); n != rounds || ok != quiet {
		t.Fatalf("Rest(%d): %d, %t, want %d, %t", most, n, ok, rounds, quiet)
	}
	hold(t, "Picks of a Rest", m.Picks()-picks, rounds*m.Core().Conf().Threads)
}

// picture is all that can be asked of a machine and changes nothing.
func picture(m *exec.Machine) string {
	c := m.Core()
	s := fmt.Sprintf("%+v\n%+v\n%t %d %v %t", c.State(), c.Events(), c.Drained(), m.Picks(), m.Did(), m.Quiet())
	for by := range c.Conf().Threads {
		w, _ := m.Worker(by)
		s += fmt.Sprintf(" %+v", w)
	}
	return s
}

// The chapter's example.
func TestExample(t *testing.T) {
	m := made(t, api.Conf{Threads: 1, K: 0, Credits: 1})
	submit(t, m, 1, 0, 3)
	rest(t, m, 9, 4, true)
	hold(t, "Status", m.Core().Status(1), api.SDone)
}

// 20.1: New has the bounds of a core, and answers nothing beside an error.
func TestNew(t *testing.T) {
	for _, threads := range append([]int{0, 1, 2, 7, 8, 9}, wild...) {
		for _, k := range append([]int{0, 1, 15, 16}, wild...) {
			for _, credits := range append([]int{0, 1, 63, 64}, wild...) {
				conf := api.Conf{Threads: threads, K: k, Credits: credits}
				right := threads >= 1 && threads <= 8 && k >= 0 && k <= 16 && credits >= 1 && credits <= 64
				m, e := exec.New(conf)
				if (m != nil) != right || (e == api.OK) != right || e != api.OK && e != api.ErrArg {
					t.Fatalf("New(%v) = %v, %d", conf, m, e)
				}
				if right {
					isNew(t, m, conf)
				}
			}
		}
	}
}

// isNew holds that nothing has happened at a machine yet.
func isNew(t *testing.T, m *exec.Machine, conf api.Conf) {
	t.Helper()
	alone, _ := core.New(conf)
	hold(t, "Conf", m.Core().Conf(), conf)
	hold(t, "State", fmt.Sprintf("%+v", m.Core().State()), fmt.Sprintf("%+v", alone.State()))
	hold(t, "Events", len(m.Core().Events()), 0)
	hold(t, "Picks", m.Picks(), 0)
	hold(t, "Did", m.Did(), "[0 0 0 0 0 0 0]")
	hold(t, "Quiet", m.Quiet(), true)
	for by := range conf.Threads {
		hold(t, "Worker", worker(t, m, by), api.Worker{})
	}
}

// 20.1: there is one core, which all that a machine does goes to.
func TestCore(t *testing.T) {
	m := made(t, api.Conf{Threads: 2, K: 1, Credits: 3})
	c := m.Core()
	submit(t, m, 1, 1, 0)
	m.Rest(9, 0)
	if c != m.Core() || c.Status(1) != api.SDone {
		t.Errorf("%p, %p, %d", c, m.Core(), c.Status(1))
	}
	other := made(t, c.Conf())
	hold(t, "another one's tasks", len(other.Core().State().Tasks), 0)
}

// 20.1: each thread has its worker, and no other number has one.
func TestWorker(t *testing.T) {
	for threads := 1; threads <= api.MaxThreads; threads++ {
		m := made(t, api.Conf{Threads: threads, K: 2, Credits: 9})
		submit(t, m, 1, 0, 2, api.Op{Kind: api.BNop}, api.Op{Kind: api.BPanic})
		e := api.Entry{Key: 3, ID: 1}
		for _, want := range []api.Worker{
			{}, {Phase: api.PClaim, E: e}, {Phase: api.PRun, E: e}, {Phase: api.PRun, E: e, PC: 1}, {Phase: api.PRun, E: e, PC: 2, Bad: true}, {},
		} {
			m.Pick(0, 0)
			hold(t, "Worker", worker(t, m, 0), want)
			for by := 1; by < threads; by++ {
				hold(t, "another one", worker(t, m, by), api.Worker{})
			}
		}
		for _, by := range append([]int{threads, threads + 1, 8, 9, 1 << 40}, wild...) {
			if w, ok := m.Worker(by); w != (api.Worker{}) || ok {
				t.Errorf("Worker(%d) of %d: %+v, %t", by, threads, w, ok)
			}
		}
	}
}

// 20.1, Ways: a pick is a word: the worker that steps is that word modulo Threads, however great it is, and no other worker does.
func TestPickIsModulo(t *testing.T) {
	for threads := 1; threads <= api.MaxThreads; threads++ {
		for _, pick := range words {
			m := made(t, api.Conf{Threads: threads, K: 2, Credits: 9})
			for by := range threads {
				submit(t, m, by+1, by, by%8)
			}
			by := int(new(big.Int).Mod(new(big.Int).SetUint64(pick), big.NewInt(int64(threads))).Int64())
			hold(t, "the first pick", m.Pick(pick, 0), api.DSettle)
			for _, e := range m.Core().State().Slots {
				if e.ID == by+1 {
					t.Errorf("Pick(%d) of %d: the slot of %d has its entry", pick, threads, by)
				}
			}
			hold(t, "slots", len(m.Core().State().Slots), threads-1)
			hold(t, "the second pick", m.Pick(pick, 0), api.DLook)
			for other := range threads {
				hold(t, "Phase", worker(t, m, other).Phase, map[bool]int{true: api.PClaim, false: api.PIdle}[other == by])
			}
			hold(t, "Picks", m.Picks(), 2)
		}
	}
}

// threeShared has three threads, the tasks 1 to 3 in the shared list, and 4 in the own list of thread 1.
func threeShared(t *testing.T) *exec.Machine {
	t.Helper()
	m := made(t, api.Conf{Threads: 3, K: 2, Credits: 9})
	for id := 1; id <= 4; id++ {
		submit(t, m, id, 1, id)
	}
	m.Core().Settle(1)
	hold(t, "shared", m.Core().State().Shared, "[{1 1} {3 2} {7 3}]")
	return m
}

// 20.1: a draw goes whole to the worker that steps; that of a Round, or of a Rest, goes to all.
func TestDraw(t *testing.T) {
	for _, draw := range words {
		id := 1 + int(draw%3)
		for pick := range uint64(3) {
			m := threeShared(t)
			hold(t, "Pick", m.Pick(pick, draw), api.DLook)
			hold(t, "what was looked at", worker(t, m, int(pick)).E.ID, id)
		}
		round, rested := threeShared(t), threeShared(t)
		hold(t, "Round", round.Round(draw), "[2 2 2]")
		rested.Rest(1, draw)
		for by := range 3 {
			hold(t, "what was looked at", worker(t, round, by).E.ID, id)
			hold(t, "what was looked at", worker(t, rested, by).E.ID, id)
		}
	}
}

// 20.1: what Pick answers, Picks and Did, by each kind of thing that can be done.
func TestPicksAndDid(t *testing.T) {
	m := made(t, api.Conf{Threads: 2, K: 1, Credits: 3})
	submit(t, m, 1, 0, 2, api.Op{Kind: api.BNop})
	for i, x := range []struct {
		pick uint64
		kind int
		did  string
	}{
		{0, api.DSettle, "[0 1 0 0 0 0 0]"},
		{0, api.DLook, "[0 1 1 0 0 0 0]"},
		{1, api.DLook, "[0 1 2 0 0 0 0]"},
		{0, api.DClaim, "[0 1 2 1 0 0 0]"},
		{1, api.DMiss, "[0 1 2 1 1 0 0]"},
		{1, api.DIdle, "[1 1 2 1 1 0 0]"},
		{0, api.DOp, "[1 1 2 1 1 1 0]"},
		{0, api.DFinish, "[1 1 2 1 1 1 1]"},
		{0, api.DIdle, "[2 1 2 1 1 1 1]"},
		{1, api.DIdle, "[3 1 2 1 1 1 1]"},
	} {
		hold(t, fmt.Sprint("pick ", i), m.Pick(x.pick, 7), x.kind)
		hold(t, "Did", m.Did(), x.did)
		hold(t, "Picks", m.Picks(), i+1)
	}
	m.Round(0)
	hold(t, "Picks behind a Round", m.Picks(), 12)
	m.Rest(9, 0)
	hold(t, "Picks behind a Rest of nothing", m.Picks(), 12)
	hold(t, "Did", m.Did(), "[5 1 2 1 1 1 1]")
}

// 20.1: a Round goes from the first worker to the last, each of which finds what those ahead of it did.
func TestRoundIsInOrder(t *testing.T) {
	m := made(t, api.Conf{Threads: 3, K: 1, Credits: 9})
	submit(t, m, 1, 0, 2, api.Op{Kind: api.BSubmit, A: 0})
	for i, want := range []string{
		"[1 2 2]", // the first brings it in, the others look at it already
		"[2 3 4]", // the second claims it, ahead of the third
		"[4 5 2]", // its op makes another one, which the third looks at
		"[2 6 3]", // the first looks at it, too
		"[4 0 6]", // which the third had already
		"[0 0 0]",
	} {
		hold(t, fmt.Sprint("round ", i), m.Round(0), want)
		hold(t, "Picks", m.Picks(), 3*(i+1))
	}
	hold(t, "Status", []int{m.Core().Status(1), m.Core().Status(2)}, []int{api.SDone, api.SDone})
}

// 20.1: a Round tells one thing a worker, whatever their number.
func TestRoundHasAll(t *testing.T) {
	for threads := 1; threads <= api.MaxThreads; threads++ {
		m := made(t, api.Conf{Threads: threads, K: 16, Credits: 9})
		for by := range threads {
			submit(t, m, by+1, by, 0)
		}
		if l := m.Round(0); len(l) != threads || l[0] != api.DSettle || l[threads-1] != api.DSettle {
			t.Errorf("Round of %d: %v", threads, l)
		}
		hold(t, "slots", len(m.Core().State().Slots), 0)
		hold(t, "Did", m.Did(), []int{0, threads, 0, 0, 0, 0, 0})
	}
}

// 20.1: quiet is where all workers are idle and the queue has nothing, in none of its places; what waits, or is claimed by somebody else, does not count.
func TestQuiet(t *testing.T) {
	for name, x := range map[string]struct {
		do    func(m *exec.Machine)
		quiet bool
	}{
		"a slot": {func(m *exec.Machine) { m.Core().Submit(1, 0, nil, nil) }, false},
		"an own list": {func(m *exec.Machine) {
			m.Core().Submit(1, 0, nil, nil)
			m.Pick(1, 0)
		}, false},
		"the last own list": {func(m *exec.Machine) {
			m.Core().Submit(2, 0, nil, nil)
			m.Core().Settle(2)
		}, false},
		"the shared list": {func(m *exec.Machine) {
			m.Core().Submit(0, 0, nil, nil)
			m.Core().Submit(0, 0, nil, nil)
			m.Core().Settle(0)
		}, false},
		"one who claims what is gone": {func(m *exec.Machine) {
			m.Core().Submit(0, 0, nil, nil)
			m.Pick(2, 0)
			m.Core().Cancel(1)
		}, false},
		"one who runs": {func(m *exec.Machine) {
			m.Core().Submit(0, 0, nil, nil)
			m.Pick(2, 0)
			m.Pick(2, 0)
		}, false},
		"all have run": {func(m *exec.Machine) {
			m.Core().Submit(0, 0, nil, nil)
			for range 3 {
				m.Pick(2, 0)
			}
		}, true},
		"cancelled": {func(m *exec.Machine) {
			m.Core().Submit(0, 0, nil, nil)
			m.Core().Cancel(1)
		}, true},
		"claimed by somebody else": {func(m *exec.Machine) {
			m.Core().Submit(0, 0, nil, nil)
			m.Core().Claim(1, api.Entry{ID: 1})
		}, true},
		"waiting for a tick": {func(m *exec.Machine) {
			m.Core().After(0, 0, nil, 3)
			m.Core().Every(0, 0, nil, 3, 3)
		}, true},
		"waiting for a task": {func(m *exec.Machine) {
			m.Core().After(0, 0, nil, 3)
			m.Core().Submit(0, 0, nil, []int{1})
		}, true},
		"due": {func(m *exec.Machine) {
			m.Core().After(0, 0, nil, 3)
			m.Core().Advance(0, 3)
		}, false},
		"closed, and one ready": {func(m *exec.Machine) {
			m.Core().Submit(0, 0, nil, nil)
			m.Core().Shutdown()
		}, false},
	} {
		m := made(t, api.Conf{Threads: 3, K: 1, Credits: 9})
		x.do(m)
		before := picture(m)
		if m.Quiet() != x.quiet {
			t.Errorf("%s: Quiet is %t", name, !x.quiet)
		}
		hold(t, "the machine behind Quiet", picture(m), before)
	}
}

// 20.1: each place of the queue alone keeps a machine from being quiet, as it is told by State.
func TestQuietAsksEachPlace(t *testing.T) {
	m := made(t, api.Conf{Threads: 2, K: 0, Credits: 9})
	submit(t, m, 1, 0, 0)
	hold(t, "slots", len(m.Core().State().Slots), 1)
	hold(t, "Quiet", m.Quiet(), false)
	m.Core().Settle(0)
	hold(t, "shared", len(m.Core().State().Shared), 1)
	hold(t, "Quiet", m.Quiet(), false)
	for by := range 8 {
		m = made(t, api.Conf{Threads: 8, K: 1, Credits: 9})
		submit(t, m, 1, by, 0)
		m.Core().Settle(by)
		hold(t, "own", len(m.Core().State().Local[by]), 1)
		hold(t, "Quiet", m.Quiet(), false)
	}
}

// 20.1: a Rest has as many rounds as are needed, and no more than it was told; it goes on where the last one left off.
func TestRest(t *testing.T) {
	for _, most := range []int{0, -1, -5, math.MinInt32, math.MinInt} {
		m := made(t, api.Conf{Threads: 2, K: 1, Credits: 3})
		rest(t, m, most, 0, true)
		submit(t, m, 1, 0, 0)
		rest(t, m, most, 0, false)
	}
	for most := range 9 {
		m := made(t, api.Conf{Threads: 1, K: 1, Credits: 3})
		submit(t, m, 1, 0, 0, api.Op{Kind: api.BNop}, api.Op{Kind: api.BNop})
		rest(t, m, most, min(most, 6), most >= 6)
		rest(t, m, math.MaxInt, 6-min(most, 6), true)
		rest(t, m, 1<<40, 0, true)
		hold(t, "Did", m.Did(), "[0 1 1 1 0 2 1]")
	}
}

// 20.1: what waits is not waited for; when it is released, there is something to do again.
func TestRestLeavesWhatWaits(t *testing.T) {
	m := made(t, api.Conf{Threads: 1, K: 1, Credits: 3})
	m.Core().Every(0, 0, nil, 0, 5)
	for n := range 4 {
		rest(t, m, 100, 4, true)
		hold(t, "Runs", m.Core().State().Tasks[0].Runs, n+1)
		rest(t, m, 100, 0, true)
		m.Core().Advance(0, 5)
	}
}

// 20.1, 20.2: what is answered is new, its spare room too.
func TestAnswersAreNew(t *testing.T) {
	m := made(t, api.Conf{Threads: 3, K: 1, Credits: 3})
	submit(t, m, 1, 0, 0)
	round := m.Round(0)
	before := picture(m)
	spoil(round)
	spoil(m.Did())
	w := worker(t, m, 1)
	w.Phase, w.E.ID = 9, 9
	hold(t, "the machine", picture(m), before)
	hold(t, "Did", m.Did(), "[0 1 2 0 0 0 0]")
	first, second := m.Did(), m.Did()
	spoil(first)
	hold(t, "another Did", second, "[0 1 2 0 0 0 0]")
}

// spoil writes over a list and its spare room.
func spoil(l []int) {
	l = l[:cap(l)]
	for i := range l {
		l[i] = 77
	}
}
