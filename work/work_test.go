package work_test

import (
	"fmt"
	"math"
	"testing"

	"verger/api"
	"verger/core"
	"verger/work"
)

// wild has numbers that are no thread, no phase, no place in a body, and no id.
var wild = []int{-1, -2, 17, 201, 1 << 20, 1<<32 + 1, 1<<61 + 1, math.MaxInt32, math.MinInt32, math.MaxInt, math.MinInt}

func made(t *testing.T, conf api.Conf) *core.Core {
	t.Helper()
	c, e := core.New(conf)
	if c == nil || e != api.OK {
		t.Fatalf("New(%v) = %v, %d", conf, c, e)
	}
	return c
}

// small has two threads, and own lists of at most one.
func small(t *testing.T) *core.Core {
	t.Helper()
	return made(t, api.Conf{Threads: 2, K: 1, Credits: 20})
}

// submit makes the n-th task.
func submit(t *testing.T, c *core.Core, n, by, prio int, ops ...api.Op) {
	t.Helper()
	if id, e := c.Submit(by, prio, ops, nil); id != n || e != api.OK {
		t.Fatalf("%d, %d, want the id %d", id, e, n)
	}
}

// keyOf is the Key that a task has now.
func keyOf(c *core.Core, id int) uint64 {
	tasks := c.State().Tasks
	if id < 1 || id > len(tasks) {
		return 0
	}
	return tasks[id-1].Key
}

// claim claims a task that must be ready.
func claim(t *testing.T, c *core.Core, by, id int) {
	t.Helper()
	if e := c.Claim(by, api.Entry{Key: keyOf(c, id), ID: id}); e != api.OK {
		t.Fatalf("Claim of %d: %d", id, e)
	}
}

// running is a worker that runs a task and has come to that op.
func running(c *core.Core, id, pc int) api.Worker {
	return api.Worker{Phase: api.PRun, E: api.Entry{Key: keyOf(c, id), ID: id}, PC: pc}
}

func hold(t *testing.T, what string, got, want any) {
	t.Helper()
	if g, w := fmt.Sprint(got), fmt.Sprint(want); g != w {
		t.Errorf("%s: %s, want %s", what, g, w)
	}
}

// step is one step, which must do that and answer that worker.
func step(t *testing.T, c *core.Core, w api.Worker, by int, draw uint64, did int, then api.Worker) api.Worker {
	t.Helper()
	got, kind := work.Step(c, w, by, draw)
	if kind != did || got != then {
		t.Fatalf("Step of %+v: %+v, %d, want %+v, %d", w, got, kind, then, did)
	}
	return got
}

// picture is all that can be asked of a core and changes nothing.
func picture(c *core.Core) string {
	s := fmt.Sprintf("%+v\n%+v\n%t", c.State(), c.Events(), c.Drained())
	for id := range len(c.State().Tasks) {
		s += fmt.Sprint(c.Body(id + 1))
	}
	return s
}

// told is the events from one on, but for ticket and tick.
func told(c *core.Core, from int) string {
	s := ""
	for _, e := range c.Events()[from:] {
		s += fmt.Sprintf("%d:%d,%d,%d ", e.Kind, e.T, e.ID, e.Key)
	}
	return s
}

// The chapter's example.
func TestExample(t *testing.T) {
	c := made(t, api.Conf{Threads: 1, K: 0, Credits: 1})
	submit(t, c, 1, 0, 3)
	var w api.Worker
	for i, want := range []int{api.DSettle, api.DLook, api.DClaim, api.DFinish, api.DIdle} {
		var did int
		if w, did = work.Step(c, w, 0, 0); did != want {
			t.Fatalf("step %d: %d, want %d", i, did, want)
		}
	}
	hold(t, "worker", w, api.Worker{})
	hold(t, "Status", c.Status(1), api.SDone)
}

// 19.1: what is done is told by these numbers.
func TestNumbers(t *testing.T) {
	hold(t, "kinds", []int{api.DIdle, api.DSettle, api.DLook, api.DClaim, api.DMiss, api.DOp, api.DFinish}, "[0 1 2 3 4 5 6]")
	hold(t, "phases", []int{api.PIdle, api.PClaim, api.PRun}, "[0 1 2]")
}

// 19.1: a worker from the beginning of a task to its end, one touch of the core a step.
func TestOneTask(t *testing.T) {
	c := small(t)
	submit(t, c, 1, 1, 2, api.Op{Kind: api.BNop}, api.Op{Kind: api.BSubmit, A: 4}, api.Op{Kind: api.BAfter, A: 1, B: 6}, api.Op{Kind: api.BCancel, A: 2})
	e := api.Entry{Key: 3, ID: 1}
	var w api.Worker
	for i, x := range []struct {
		did  int
		then api.Worker
		told string
	}{
		{api.DSettle, api.Worker{}, ""},
		{api.DLook, api.Worker{Phase: 1, E: e}, "10:1,1,3 "},
		{api.DClaim, api.Worker{Phase: 2, E: e}, "3:1,1,3 "},
		{api.DOp, api.Worker{Phase: 2, E: e, PC: 1}, ""},
		{api.DOp, api.Worker{Phase: 2, E: e, PC: 2}, "1:-1,2,0 2:1,2,16 "},
		{api.DOp, api.Worker{Phase: 2, E: e, PC: 3}, "1:-1,3,0 "},
		{api.DOp, api.Worker{Phase: 2, E: e, PC: 4}, "7:-1,2,0 "},
		{api.DFinish, api.Worker{}, "4:1,1,0 "},
		{api.DIdle, api.Worker{}, ""},
	} {
		n := len(c.Events())
		w = step(t, c, w, 1, 0, x.did, x.then)
		hold(t, fmt.Sprint("events of step ", i), told(c, n), x.told)
	}
	hold(t, "timers", c.State().Timers, "[{6 3}]")
}

// 19.1: an idle worker brings in its own slot's entry first, and no other thread's, and looks only in the next step.
func TestIdleSettlesFirst(t *testing.T) {
	c := small(t)
	submit(t, c, 1, 0, 3)
	submit(t, c, 2, 1, 5)
	n := len(c.Events())
	step(t, c, api.Worker{}, 1, 0, api.DSettle, api.Worker{})
	hold(t, "events", told(c, n), "")
	hold(t, "slots", c.State().Slots, "[{7 1}]")
	hold(t, "own", c.State().Local, "[[] [{31 2}]]")
	step(t, c, api.Worker{}, 1, 0, api.DLook, api.Worker{Phase: api.PClaim, E: api.Entry{Key: 31, ID: 2}})
	hold(t, "slots", c.State().Slots, "[{7 1}]")
	hold(t, "Status", c.Status(2), api.SReady)
}

// 19.1: a Look is by the worker's thread and draw: of the shared ones the one that the draw says.
func TestLookHasTheDraw(t *testing.T) {
	c := made(t, api.Conf{Threads: 3, K: 2, Credits: 9})
	for id := 1; id <= 4; id++ {
		submit(t, c, id, 1, id)
	}
	for range 2 {
		c.Settle(1)
	}
	hold(t, "shared", len(c.State().Shared), 3)
	for _, draw := range []uint64{0, 1, 2, 3, 4, 5, 1 << 40, math.MaxUint64 - 1, math.MaxUint64} {
		id := 1 + int(draw%3)
		e := api.Entry{Key: keyOf(c, id), ID: id}
		n := len(c.Events())
		step(t, c, api.Worker{}, 2, draw, api.DLook, api.Worker{Phase: api.PClaim, E: e})
		hold(t, "events", told(c, n), fmt.Sprintf("10:2,%d,%d ", e.ID, e.Key))
	}
}

// 19.1: where an idle worker does not say otherwise, it stays as it is, whatever it has.
func TestIdleStays(t *testing.T) {
	c := small(t)
	odd := api.Worker{E: api.Entry{Key: 9, ID: -4}, PC: -7, Bad: true}
	step(t, c, odd, 0, 5, api.DIdle, odd)
	submit(t, c, 1, 0, 3)
	step(t, c, odd, 0, 5, api.DSettle, odd)
	odd.Phase, odd.E = api.PClaim, api.Entry{Key: 7, ID: 1}
	step(t, c, api.Worker{PC: -7, Bad: true}, 0, 5, api.DLook, odd)
	step(t, c, odd, 0, 5, api.DClaim, api.Worker{Phase: api.PRun, E: odd.E})
}

// 19.1: a claim that is refused, for whichever reason, leaves an idle worker with nothing.
func TestMisses(t *testing.T) {
	c := small(t)
	for id := 1; id <= 5; id++ {
		submit(t, c, id, 0, 0)
	}
	c.Every(0, 0, nil, 0, 4)
	old := api.Entry{Key: keyOf(c, 6), ID: 6}
	for _, id := range []int{1, 2, 3, 6} {
		claim(t, c, 1, id)
	}
	c.Finish(1, 2, true)
	c.Finish(1, 3, false)
	c.Finish(1, 6, true)
	c.Cancel(4)
	c.Advance(0, 4)
	before := picture(c)
	entries := []api.Entry{{Key: 0, ID: 1}, {Key: 0, ID: 2}, {Key: 0, ID: 3}, {Key: 0, ID: 4}, {Key: 1, ID: 5}, old, {ID: 7}, {ID: 0}, {Key: 5, ID: 0}}
	for _, n := range wild {
		entries = append(entries, api.Entry{ID: n}, api.Entry{Key: math.MaxUint64, ID: n})
	}
	for _, e := range entries {
		for _, w := range []api.Worker{{Phase: api.PClaim, E: e}, {Phase: api.PClaim, E: e, PC: 3, Bad: true}} {
			step(t, c, w, 1, 2, api.DMiss, api.Worker{})
			hold(t, "the core behind a miss", picture(c), before)
		}
	}
	step(t, c, api.Worker{Phase: api.PClaim, E: api.Entry{Key: keyOf(c, 6), ID: 6}}, 1, 0, api.DClaim, running(c, 6, 0))
}

// 19.1: what is claimed begins with its first op, and not bad.
func TestClaimBeginsAnew(t *testing.T) {
	for _, pc := range append([]int{0, 1, 5}, wild...) {
		for _, bad := range []bool{false, true} {
			c := small(t)
			submit(t, c, 1, 0, 2, api.Op{Kind: api.BNop})
			w := api.Worker{Phase: api.PClaim, E: api.Entry{Key: 3, ID: 1}, PC: pc, Bad: bad}
			n := len(c.Events())
			w = step(t, c, w, 1, 0, api.DClaim, api.Worker{Phase: api.PRun, E: w.E})
			hold(t, "events", told(c, n), "3:1,1,3 ")
			w = step(t, c, w, 1, 0, api.DOp, running(c, 1, 1))
			step(t, c, w, 1, 0, api.DFinish, api.Worker{})
			hold(t, "Status", c.Status(1), api.SDone)
		}
	}
}

// 19.1: a place that the body does not have ends the task well, and one that is bad ends it badly, wherever it is.
func TestRunEnds(t *testing.T) {
	for _, ops := range []int{0, 1, 3, 16} {
		for _, pc := range append([]int{0, 1, 2, 3, 15, 16}, wild...) {
			for _, bad := range []bool{false, true} {
				c := small(t)
				submit(t, c, 1, 0, 0, make16()[:ops]...)
				claim(t, c, 0, 1)
				w := running(c, 1, pc)
				w.Bad = bad
				n := len(c.Events())
				if !bad && pc >= 0 && pc < ops {
					step(t, c, w, 1, 0, api.DOp, running(c, 1, pc+1))
					hold(t, "Status", c.Status(1), api.SClaimed)
					hold(t, "events", told(c, n), fmt.Sprintf("1:-1,2,0 2:1,2,%d ", keyOf(c, 2)))
					hold(t, "urgency", c.State().Tasks[1].Prio, pc%8)
					continue
				}
				step(t, c, w, 1, 0, api.DFinish, api.Worker{})
				hold(t, "events", told(c, n), map[bool]string{false: "4:1,1,0 ", true: "5:1,1,0 "}[bad])
			}
		}
	}
}

// make16 is sixteen ops that can be told from each other.
func make16() []api.Op {
	l := make([]api.Op, 16)
	for i := range l {
		l[i] = api.Op{Kind: api.BSubmit, A: i % 8}
	}
	return l
}

// 19.1: behind a panic no op is done: the task fails, and what waits for it goes with it.
func TestPanicFails(t *testing.T) {
	for at := range 4 {
		c := small(t)
		ops := []api.Op{{Kind: api.BNop}, {Kind: api.BNop}, {Kind: api.BNop}, {Kind: api.BSubmit}}
		ops[at] = api.Op{Kind: api.BPanic}
		submit(t, c, 1, 0, 0, ops...)
		c.Submit(0, 0, nil, []int{1})
		claim(t, c, 0, 1)
		n := len(c.Events())
		w := running(c, 1, 0)
		for i := range at {
			w = step(t, c, w, 0, 0, api.DOp, running(c, 1, i+1))
		}
		bad := running(c, 1, at+1)
		bad.Bad = true
		w = step(t, c, w, 0, 0, api.DOp, bad)
		hold(t, "Status", c.Status(1), api.SClaimed)
		step(t, c, w, 0, 0, api.DFinish, api.Worker{})
		hold(t, "events", told(c, n), "5:0,1,0 7:-1,2,0 ")
	}
}

// 19.1: an op that the core refuses, or that cancels what can not be cancelled, is done like another.
func TestRefusedOpsAreNotBad(t *testing.T) {
	c := made(t, api.Conf{Threads: 1, K: 0, Credits: 1})
	submit(t, c, 1, 0, 0, api.Op{Kind: api.BSubmit}, api.Op{Kind: api.BAfter, B: 3}, api.Op{Kind: api.BCancel, A: 1}, api.Op{Kind: api.BCancel, A: 900})
	claim(t, c, 0, 1)
	n, w := len(c.Events()), running(c, 1, 0)
	for i := range 4 {
		w = step(t, c, w, 0, 0, api.DOp, running(c, 1, i+1))
	}
	hold(t, "events", told(c, n), "")
	step(t, c, w, 0, 0, api.DFinish, api.Worker{})
	hold(t, "Status", c.Status(1), api.SDone)
}

// 19.1: what comes again waits for its next tick, and behind a panic it does not.
func TestComesAgain(t *testing.T) {
	c := small(t)
	c.Every(0, 1, nil, 0, 5)
	c.Every(0, 1, []api.Op{{Kind: api.BPanic}}, 0, 5)
	for id, state := range map[int]int{1: api.SWaiting, 2: api.SFailed} {
		claim(t, c, 0, id)
		w := running(c, id, 0)
		for !work.Idle(w) {
			w, _ = work.Step(c, w, 0, 0)
		}
		hold(t, "worker", w, api.Worker{})
		hold(t, "Status", c.Status(id), state)
	}
	hold(t, "timers", c.State().Timers, "[{5 1}]")
}

// 19.1: a worker that says that it runs what it has not claimed does its ops, and its end is refused.
func TestRunsWhatIsNotClaimed(t *testing.T) {
	c := small(t)
	submit(t, c, 1, 0, 0, api.Op{Kind: api.BSubmit, A: 1})
	c.After(0, 0, []api.Op{{Kind: api.BPanic}}, 9)
	step(t, c, running(c, 1, 0), 1, 0, api.DOp, running(c, 1, 1))
	hold(t, "Status", c.Status(3), api.SReady)
	bad := running(c, 2, 1)
	bad.Bad = true
	step(t, c, running(c, 2, 0), 1, 0, api.DOp, bad)
	before := picture(c)
	for _, w := range []api.Worker{bad, running(c, 1, 1), running(c, 3, 0), running(c, 4, 0), running(c, 0, 0)} {
		step(t, c, w, 1, 0, api.DFinish, api.Worker{})
		hold(t, "the core behind a refused end", picture(c), before)
	}
	for _, n := range wild {
		step(t, c, running(c, n, 0), 0, 0, api.DFinish, api.Worker{})
		hold(t, "the core behind a refused end", picture(c), before)
	}
}

// 19.1: of a thread that is none, and in a phase that is none, nothing is done, and the worker stays.
func TestNothingIsDone(t *testing.T) {
	c := small(t)
	submit(t, c, 1, 0, 0, api.Op{Kind: api.BSubmit}, api.Op{Kind: api.BCancel, A: 2})
	submit(t, c, 2, 1, 3)
	submit(t, c, 3, 0, 0, api.Op{Kind: api.BSubmit})
	claim(t, c, 0, 1)
	before := picture(c)
	still := func(w api.Worker, by int) {
		t.Helper()
		step(t, c, w, by, 1, api.DIdle, w)
		hold(t, "the core", picture(c), before)
	}
	for _, by := range append([]int{2, 3, 8}, wild...) {
		still(api.Worker{PC: 4, Bad: true}, by)
		still(api.Worker{Phase: api.PClaim, E: api.Entry{ID: 3}, PC: 5}, by)
		for pc := range 4 {
			still(running(c, 1, pc), by)
		}
		still(api.Worker{Phase: 3}, by)
	}
	for _, phase := range append([]int{3, 4, 5, 6}, wild...) {
		still(api.Worker{Phase: phase}, 0)
		still(api.Worker{Phase: phase, E: api.Entry{ID: 3}, PC: 1}, 1)
		still(api.Worker{Phase: phase, E: api.Entry{Key: 9, ID: 1}, PC: -1, Bad: true}, 0)
	}
}

// 19.2: an op is the core's call with these numbers, by the thread; only a panic is one.
func TestOps(t *testing.T) {
	numbers := append([]int{0, 1, 2, 3, 4, 7, 8, 1000, 1000000}, wild...)
	for kind := -2; kind <= 8; kind++ {
		for _, by := range []int{0, 1, 2, -1} {
			for _, a := range numbers {
				for _, b := range numbers {
					c, twin := begun(t), begun(t)
					o := api.Op{Kind: kind, A: a, B: b}
					call(twin, by, o)
					if panics := work.Op(c, by, o); panics != (kind == api.BPanic) {
						t.Fatalf("Op(%d, %+v) = %t", by, o, panics)
					}
					if got, want := told(c, 0), told(twin, 0); got != want {
						t.Fatalf("Op(%d, %+v): %s, want %s", by, o, got, want)
					}
					if kind == api.BAfter {
						hold(t, "timers", c.State().Timers, twin.State().Timers)
					}
				}
			}
		}
	}
}

// begun has a task that is ready, one that is claimed, one that waits for a tick and one that waits for that.
func begun(t *testing.T) *core.Core {
	t.Helper()
	c := small(t)
	submit(t, c, 1, 0, 0)
	submit(t, c, 2, 0, 0)
	c.After(1, 3, nil, 5)
	c.Submit(1, 3, nil, []int{3})
	claim(t, c, 0, 2)
	return c
}

// call does what the chapter says of an op.
func call(c *core.Core, by int, o api.Op) {
	delay := uint64(0)
	if o.B > 0 {
		delay = uint64(o.B)
	}
	switch o.Kind {
	case api.BSubmit:
		c.Submit(by, o.A, nil, nil)
	case api.BAfter:
		c.After(by, o.A, nil, delay)
	case api.BCancel:
		c.Cancel(o.A)
	}
}

// 19.2: what an op makes has no body, waits for no task, and is due behind its delay.
func TestWhatAnOpMakes(t *testing.T) {
	c := small(t)
	c.Advance(0, 100)
	hold(t, "Op", work.Op(c, 1, api.Op{Kind: api.BSubmit, A: 5, B: 9}), false)
	hold(t, "Op", work.Op(c, 1, api.Op{Kind: api.BAfter, A: 6, B: 9}), false)
	hold(t, "Op", work.Op(c, 0, api.Op{Kind: api.BAfter, A: 7}), false)
	hold(t, "tasks", c.State().Tasks, []api.Task{{ID: 1, Prio: 5, State: api.SReady, Key: 31}, {ID: 2, Prio: 6, State: api.SWaiting, Due: 109}, {ID: 3, Prio: 7, State: api.SReady, Key: 127}})
	hold(t, "slots", c.State().Slots, "[{127 3} {31 1}]")
	for id := 1; id <= 3; id++ {
		hold(t, "Body", len(c.Body(id)), 0)
	}
}

// 19.2: when the core is closed, or has no credit or no room for a task, an op makes none.
func TestOpsOfAFullCore(t *testing.T) {
	full := made(t, api.Conf{Threads: 1, K: 0, Credits: 2})
	submit(t, full, 1, 0, 0)
	submit(t, full, 2, 0, 0)
	closed := small(t)
	closed.Shutdown()
	many := small(t)
	for id := 1; id <= api.MaxTasks; id++ {
		submit(t, many, id, 0, 0)
		many.Cancel(id)
	}
	for i, c := range []*core.Core{full, closed, many} {
		before := picture(c)
		for _, o := range []api.Op{{Kind: api.BSubmit, A: 1}, {Kind: api.BAfter, A: 1, B: 4}, {Kind: api.BAfter, A: 1}} {
			if work.Op(c, 0, o) || picture(c) != before {
				t.Errorf("core %d: %+v has done something", i, o)
			}
		}
	}
}

// 19.2: only the phase says whether a worker is idle.
func TestIdle(t *testing.T) {
	for _, x := range []api.Worker{{}, {PC: 3}, {Bad: true}, {E: api.Entry{Key: 1, ID: 1}, PC: -1}} {
		if !work.Idle(x) {
			t.Errorf("%+v is not idle", x)
		}
		for _, phase := range append([]int{api.PClaim, api.PRun, 3}, wild...) {
			if x.Phase = phase; work.Idle(x) {
				t.Errorf("%+v is idle", x)
			}
		}
	}
}
