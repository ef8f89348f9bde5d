package core_test

import (
	"fmt"
	"math"
	"slices"
	"testing"

	"verger/api"
	"verger/core"
)

const last = math.MaxUint64

// wild has numbers that are no thread, no urgency and no id.
var wild = []int{-1, -2, -8, 201, 1000, 1<<32 + 1, 1<<61 + 1, math.MaxInt32, math.MinInt32, math.MaxInt, math.MinInt, math.MinInt + 1}

func made(t *testing.T, conf api.Conf) *core.Core {
	t.Helper()
	c, e := core.New(conf)
	if c == nil || e != api.OK {
		t.Fatalf("New(%v) = %v, %d", conf, c, e)
	}
	return c
}

func small(t *testing.T) *core.Core {
	t.Helper()
	return made(t, api.Conf{Threads: 2, K: 1, Credits: 4})
}

// must is for calls that make the n-th task.
func must(t *testing.T, want, id int, e api.Errno) {
	t.Helper()
	if id != want || e != api.OK {
		t.Fatalf("%d, %d, want the id %d", id, e, want)
	}
}

func submit(t *testing.T, c *core.Core, want, by, prio int, preds ...int) {
	t.Helper()
	id, e := c.Submit(by, prio, nil, preds)
	must(t, want, id, e)
}

func after(t *testing.T, c *core.Core, want, by, prio int, delay uint64) {
	t.Helper()
	id, e := c.After(by, prio, nil, delay)
	must(t, want, id, e)
}

func every(t *testing.T, c *core.Core, want, by, prio int, delay, period uint64) {
	t.Helper()
	id, e := c.Every(by, prio, nil, delay, period)
	must(t, want, id, e)
}

// claim claims a task that must be ready.
func claim(t *testing.T, c *core.Core, by, id int) {
	t.Helper()
	if e := c.Claim(by, api.Entry{Key: keyOf(c, id), ID: id}); e != api.OK {
		t.Fatalf("Claim of %d: %d", id, e)
	}
}

// finish ends a task that must be claimed.
func finish(t *testing.T, c *core.Core, by, id int, ok bool) {
	t.Helper()
	if e := c.Finish(by, id, ok); e != api.OK {
		t.Fatalf("Finish of %d: %d", id, e)
	}
}

// states has the state of each task, a digit a task, and how many credits are free.
func states(c *core.Core) string {
	s := ""
	for _, x := range c.State().Tasks {
		s += fmt.Sprint(x.State)
	}
	return fmt.Sprint(s, "/", c.State().Free)
}

func hold(t *testing.T, what string, got, want any) {
	t.Helper()
	if g, w := fmt.Sprint(got), fmt.Sprint(want); g != w {
		t.Errorf("%s: %s, want %s", what, g, w)
	}
}

// told has the events from one on: Kind, T, ID, Key, Ticket, Now.
func told(c *core.Core, from int) []api.Event { return c.Events()[from:] }

// The chapter's example.
func TestExample(t *testing.T) {
	c := small(t)
	submit(t, c, 1, 0, 3)
	e, ok := c.Look(0, 0)
	hold(t, "Look", fmt.Sprint(e, ok), "{7 1} true")
	hold(t, "Claim", c.Claim(0, e), api.OK)
	hold(t, "Status", c.Status(1), api.SClaimed)
}

// 18.1: a conf's bounds, each of them from both sides.
func TestConfBounds(t *testing.T) {
	for threads := -2; threads <= 11; threads++ {
		for k := -2; k <= 18; k++ {
			for _, credits := range []int{-1, 0, 1, 2, 63, 64, 65, 128} {
				conf := api.Conf{Threads: threads, K: k, Credits: credits}
				right := threads >= 1 && threads <= 8 && k >= 0 && k <= 16 && credits >= 1 && credits <= 64
				c, e := core.New(conf)
				if right != (e == api.OK) || right != (c != nil) || !right && e != api.ErrArg {
					t.Fatalf("New(%v) = %v, %d", conf, c, e)
				}
				if right && c.Conf() != conf {
					t.Fatalf("Conf() = %v, want %v", c.Conf(), conf)
				}
			}
		}
	}
	for _, n := range wild {
		for _, conf := range []api.Conf{{Threads: n, K: 1, Credits: 1}, {Threads: 1, K: n, Credits: 1}, {Threads: 1, K: 1, Credits: n}} {
			if c, e := core.New(conf); c != nil || e != api.ErrArg {
				t.Errorf("New(%v) = %v, %d", conf, c, e)
			}
		}
	}
}

// 18.1, 18.4, 18.5: a new one is at tick 0 and ticket 0, with all credits, and has nothing else.
func TestNewIsEmpty(t *testing.T) {
	c := made(t, api.Conf{Threads: 3, K: 2, Credits: 9})
	hold(t, "State", c.State(), api.State{Free: 9, Local: make([][]api.Entry, 3)})
	hold(t, "Events", len(c.Events()), 0)
	hold(t, "Drained", c.Drained(), false)
	hold(t, "Status", c.Status(1), 0)
	hold(t, "Body", len(c.Body(1)), 0)
	for by := -1; by <= 3; by++ {
		e, ok := c.Look(by, 5)
		hold(t, "Look", fmt.Sprint(e, ok, c.Settle(by)), "{0 0} false false")
	}
	hold(t, "Events", len(c.Events()), 0)
}

// makers are the calls that make a task that waits for no other, without a delay and with one.
func makers(c *core.Core) []func(by, prio int, ops []api.Op) (int, api.Errno) {
	return []func(by, prio int, ops []api.Op) (int, api.Errno){
		func(by, prio int, ops []api.Op) (int, api.Errno) { return c.Submit(by, prio, ops, nil) },
		func(by, prio int, ops []api.Op) (int, api.Errno) { return c.After(by, prio, ops, 0) },
		func(by, prio int, ops []api.Op) (int, api.Errno) { return c.After(by, prio, ops, 3) },
		func(by, prio int, ops []api.Op) (int, api.Errno) { return c.Every(by, prio, ops, 0, 2) },
		func(by, prio int, ops []api.Op) (int, api.Errno) { return c.Every(by, prio, ops, 3, 2) },
	}
}

// 18.1, rule 8: a thread, an urgency, a body, a pred or a period that may not be makes no task and changes nothing.
func TestWrongTasks(t *testing.T) {
	c := small(t)
	submit(t, c, 1, 0, 0)
	shown := picture(c)
	bad := [][]api.Op{{{}}, {{Kind: 6}}, {{Kind: api.BSubmit, A: 8}}, {{Kind: api.BNop, A: 1}}, slices.Repeat([]api.Op{{Kind: api.BNop}}, 17)}
	refused := func(what any, id int, e api.Errno) {
		t.Helper()
		if id != 0 || e != api.ErrArg || picture(c) != shown {
			t.Fatalf("%v: %d, %d", what, id, e)
		}
	}
	for i, do := range makers(c) {
		for _, n := range append([]int{8}, wild...) {
			id, e := do(0, n, nil)
			refused([]int{i, n}, id, e)
		}
		for _, n := range append([]int{2}, wild...) {
			id, e := do(n, 0, nil)
			refused([]int{i, n}, id, e)
		}
		for _, ops := range bad {
			id, e := do(0, 0, ops)
			refused(ops, id, e)
		}
	}
	for _, n := range append([]int{0, 2}, wild...) {
		for _, preds := range [][]int{{n}, {1, n}, {n, 1}, {1, 1, n, 1}} {
			id, e := c.Submit(0, 0, nil, preds)
			refused(preds, id, e)
		}
	}
	for _, delay := range []uint64{0, 1, last} {
		id, e := c.Every(0, 0, nil, delay, 0)
		refused(delay, id, e)
	}
}

// 18.1: the greatest of what may be is taken.
func TestRightTasks(t *testing.T) {
	c := small(t)
	ops := slices.Repeat([]api.Op{{Kind: api.BAfter, A: 7, B: 1000000}}, 16)
	id, e := c.Submit(1, 7, ops, nil)
	must(t, 1, id, e)
	id, e = c.After(0, 0, ops[:1], last)
	must(t, 2, id, e)
	id, e = c.Every(0, 7, ops[:2], last, last)
	must(t, 3, id, e)
	hold(t, "Body", fmt.Sprint(c.Body(1), c.Body(2), c.Body(3), c.Body(0), c.Body(4)), fmt.Sprint(ops, ops[:1], ops[:2], []api.Op{}, []api.Op{}))
	hold(t, "Tasks", c.State().Tasks, []api.Task{
		{ID: 1, Prio: 7, State: api.SReady, Key: 127},
		{ID: 2, Prio: 0, State: api.SWaiting, Due: last},
		{ID: 3, Prio: 7, State: api.SWaiting, Due: last},
	})
}

// 18.1: that it is closed is told ahead of wrong arguments, these ahead of ErrMany, and that ahead of ErrFull; rule 8.
func TestErrorsInOrder(t *testing.T) {
	c := made(t, api.Conf{Threads: 1, K: 0, Credits: 2})
	submit(t, c, 1, 0, 0)
	hold(t, "Cancel", c.Cancel(1), api.OK)
	submit(t, c, 2, 0, 0)
	submit(t, c, 3, 0, 0)
	for id := 4; id <= 199; id++ {
		submit(t, c, id, 0, 0, 1)
	}
	all := func(want, wrong, lost api.Errno, lostID int) {
		t.Helper()
		shown := picture(c)
		for i, do := range makers(c) {
			id, e := do(0, 0, nil)
			hold(t, fmt.Sprint("maker ", i), fmt.Sprint(id, e), fmt.Sprint(0, want))
			id, e = do(1, 0, nil)
			hold(t, fmt.Sprint("wrong maker ", i), fmt.Sprint(id, e), fmt.Sprint(0, wrong))
		}
		id, e := c.Submit(0, 0, nil, []int{1, 201})
		hold(t, "wrong pred", fmt.Sprint(id, e), fmt.Sprint(0, wrong))
		id, e = c.Every(0, 0, nil, 0, 0)
		hold(t, "wrong period", fmt.Sprint(id, e), fmt.Sprint(0, wrong))
		hold(t, "unchanged", picture(c), shown)
		id, e = c.Submit(0, 0, nil, []int{2, 1})
		hold(t, "lost pred", fmt.Sprint(id, e), fmt.Sprint(lostID, lost))
	}
	// No credit is free, but one task may still be made, and what is lost needs no credit.
	all(api.ErrFull, api.ErrArg, api.OK, 200)
	all(api.ErrMany, api.ErrArg, api.ErrMany, 0)
	hold(t, "Cancel", c.Cancel(3), api.OK)
	all(api.ErrMany, api.ErrArg, api.ErrMany, 0)
	c.Shutdown()
	all(api.ErrClosed, api.ErrClosed, api.ErrClosed, 0)
}

// 18.1: 200 tasks are made, by whichever calls, and no more.
func TestTwoHundredTasks(t *testing.T) {
	c := small(t)
	do := makers(c)
	for i := range 200 {
		id, e := do[i%len(do)](i%2, i%8, nil)
		must(t, i+1, id, e)
		hold(t, "Cancel", c.Cancel(id), api.OK)
	}
	for _, each := range do {
		id, e := each(0, 0, nil)
		hold(t, "another", fmt.Sprint(id, e), fmt.Sprint(0, api.ErrMany))
	}
	hold(t, "tasks", len(c.State().Tasks), 200)
}

// 18.1, 18.5: a task with a pred that failed or was cancelled is made, cancelled, without a credit, whatever else it waits for.
func TestLostPreds(t *testing.T) {
	c := made(t, api.Conf{Threads: 1, K: 0, Credits: 3})
	submit(t, c, 1, 0, 0)
	submit(t, c, 2, 0, 0)
	submit(t, c, 3, 0, 0)
	claim(t, c, 0, 1)
	finish(t, c, 0, 1, false)
	c.Cancel(2)
	after(t, c, 4, 0, 0, 5)
	after(t, c, 5, 0, 0, 5)
	n := len(c.Events())
	submit(t, c, 6, 0, 1, 1)
	submit(t, c, 7, 0, 2, 3, 4, 2)
	submit(t, c, 8, 0, 3, 7)
	hold(t, "states", states(c), "56211666/0")
	hold(t, "told", told(c, n), []api.Event{
		{Kind: api.EMake, T: -1, ID: 6, Ticket: 1}, {Kind: api.ECancel, T: -1, ID: 6, Ticket: 1},
		{Kind: api.EMake, T: -1, ID: 7, Ticket: 1}, {Kind: api.ECancel, T: -1, ID: 7, Ticket: 1},
		{Kind: api.EMake, T: -1, ID: 8, Ticket: 1}, {Kind: api.ECancel, T: -1, ID: 8, Ticket: 1},
	})
	hold(t, "Tasks", c.State().Tasks[5:], []api.Task{{ID: 6, Prio: 1, State: 6}, {ID: 7, Prio: 2, State: 6}, {ID: 8, Prio: 3, State: 6}})
	// They are in no dag: what they would have waited for ends without them.
	claim(t, c, 0, 3)
	finish(t, c, 0, 3, true)
	hold(t, "states", states(c), "56411666/1")
}

// 18.1, W2: preds that are done are not waited for; the others are, each of them.
func TestWaitsForAllPreds(t *testing.T) {
	c := made(t, api.Conf{Threads: 2, K: 1, Credits: 9})
	submit(t, c, 1, 0, 0)
	submit(t, c, 2, 0, 0)
	submit(t, c, 3, 0, 0)
	claim(t, c, 0, 1)
	finish(t, c, 0, 1, true)
	submit(t, c, 4, 1, 0, 1, 1)
	submit(t, c, 5, 1, 3, 3, 1, 2, 3)
	hold(t, "states", states(c), "42221/5")
	for i, id := range []int{3, 2} {
		claim(t, c, 0, id)
		hold(t, "Claim", c.Claim(0, api.Entry{ID: 5}), api.ErrLate)
		hold(t, "waiting", c.Status(5), api.SWaiting)
		finish(t, c, i, id, true)
	}
	// It is released by the thread that ends the last one, at the ticket of that moment.
	hold(t, "states", states(c), "44422/7")
	hold(t, "task", c.State().Tasks[4], api.Task{ID: 5, Prio: 3, State: api.SReady, Key: 10})
	hold(t, "told", told(c, len(c.Events())-1), []api.Event{{Kind: api.ERelease, T: 1, ID: 5, Key: 10, Ticket: 3}})
}

// 18.1, 18.2: After and Every with and without a delay: where the task stands, its Due, and what is told.
func TestDelays(t *testing.T) {
	c := made(t, api.Conf{Threads: 2, K: 1, Credits: 9})
	c.Advance(0, 10)
	after(t, c, 1, 1, 2, 0)
	after(t, c, 2, 1, 2, 1)
	every(t, c, 3, 0, 1, 0, 4)
	every(t, c, 4, 0, 1, 5, 4)
	hold(t, "Tasks", c.State().Tasks, []api.Task{
		{ID: 1, Prio: 2, State: api.SReady, Key: 3},
		{ID: 2, Prio: 2, State: api.SWaiting, Due: 11},
		{ID: 3, Prio: 1, State: api.SReady, Due: 10, Key: 1},
		{ID: 4, Prio: 1, State: api.SWaiting, Due: 15},
	})
	hold(t, "Timers", c.State().Timers, []api.Timer{{Due: 11, ID: 2}, {Due: 15, ID: 4}})
	hold(t, "Slots", c.State().Slots, []api.Entry{{Key: 1, ID: 3}, {Key: 3, ID: 1}})
	hold(t, "told", c.Events(), []api.Event{
		{Kind: api.ETick, T: 0, Now: 10},
		{Kind: api.EMake, T: -1, ID: 1, Now: 10}, {Kind: api.ERelease, T: 1, ID: 1, Key: 3, Now: 10},
		{Kind: api.EMake, T: -1, ID: 2, Now: 10},
		{Kind: api.EMake, T: -1, ID: 3, Now: 10}, {Kind: api.ERelease, T: 0, ID: 3, Key: 1, Now: 10},
		{Kind: api.EMake, T: -1, ID: 4, Now: 10},
	})
}

// 18.1, 18.2, W2: time stays at its end; what waits for that tick is released by the next Advance.
func TestTimeEnds(t *testing.T) {
	c := made(t, api.Conf{Threads: 1, K: 0, Credits: 9})
	c.Advance(0, last-1)
	after(t, c, 1, 0, 0, 1)
	after(t, c, 2, 0, 0, last)
	n, e := c.Advance(0, last)
	hold(t, "Advance", fmt.Sprint(n, e, c.State().Now == last), fmt.Sprint(2, api.OK, true))
	after(t, c, 3, 0, 0, 1)
	every(t, c, 4, 0, 0, 1, 1)
	every(t, c, 5, 0, 0, 0, 1)
	hold(t, "states", states(c), "22112/4")
	hold(t, "Timers", c.State().Timers, []api.Timer{{Due: last, ID: 3}, {Due: last, ID: 4}})
	n, e = c.Advance(0, 0)
	hold(t, "Advance", fmt.Sprint(n, e), fmt.Sprint(2, api.OK))
	hold(t, "states", states(c), "22222/4")
	// There is no tick above the last: what comes again is done.
	submit(t, c, 6, 0, 0, 4)
	claim(t, c, 0, 4)
	finish(t, c, 0, 4, true)
	hold(t, "states", states(c), "222422/4")
	hold(t, "task", c.State().Tasks[3], api.Task{ID: 4, State: api.SDone, Due: last, Runs: 1})
}

// 18.3: a grid that runs out: the last run is done, and its misses are counted.
func TestGridEnds(t *testing.T) {
	c := made(t, api.Conf{Threads: 1, K: 0, Credits: 2})
	every(t, c, 1, 0, 0, 0, 1<<63)
	claim(t, c, 0, 1)
	finish(t, c, 0, 1, true)
	hold(t, "task", c.State().Tasks[0], api.Task{ID: 1, State: api.SWaiting, Due: 1 << 63, Runs: 1})
	c.Advance(0, last)
	claim(t, c, 0, 1)
	finish(t, c, 0, 1, true)
	hold(t, "task", c.State().Tasks[0], api.Task{ID: 1, State: api.SDone, Due: 1 << 63, Key: 1, Runs: 2})
	hold(t, "Free", c.State().Free, 2)
	// One whose last tick is missed while it runs is done as well.
	d := made(t, api.Conf{Threads: 1, K: 0, Credits: 2})
	every(t, d, 1, 0, 0, 0, 1<<63)
	claim(t, d, 0, 1)
	d.Advance(0, 1<<63)
	finish(t, d, 0, 1, true)
	hold(t, "task", d.State().Tasks[0], api.Task{ID: 1, State: api.SDone, Due: 0, Runs: 1, Missed: 1})
}

// 18.2: a task's Key is the ticket of its release and the slack of its urgency.
func TestKeys(t *testing.T) {
	c := made(t, api.Conf{Threads: 1, K: 0, Credits: 64})
	for i := range 24 {
		submit(t, c, i+1, 0, i%8)
		want := uint64(i) + 1<<(i%8) - 1
		hold(t, "Key", c.State().Tasks[i].Key, want)
		e := told(c, len(c.Events())-1)
		hold(t, "told", e, []api.Event{{Kind: api.ERelease, ID: i + 1, Key: want, Ticket: uint64(i)}})
		claim(t, c, 0, i+1)
	}
	hold(t, "Ticket", c.State().Ticket, 24)
}

// 18.2, W2: what comes again has a Key of each release, and the old one claims nothing.
func TestKeyOfEachRelease(t *testing.T) {
	c := small(t)
	every(t, c, 1, 0, 1, 0, 2)
	old := api.Entry{Key: 1, ID: 1}
	hold(t, "Claim", c.Claim(1, old), api.OK)
	finish(t, c, 1, 1, true)
	hold(t, "waiting", c.Claim(1, old), api.ErrLate)
	c.Advance(1, 2)
	hold(t, "old key", c.Claim(1, old), api.ErrLate)
	hold(t, "new key", c.Claim(1, api.Entry{Key: 2, ID: 1}), api.OK)
	hold(t, "again", c.Claim(1, api.Entry{Key: 2, ID: 1}), api.ErrLate)
}

// 18.2: Cancel takes a task out of the queue, wherever it stands there, out of the wheel and out of the dag.
func TestCancelTakesOut(t *testing.T) {
	c := made(t, api.Conf{Threads: 2, K: 1, Credits: 9})
	for id := 1; id <= 4; id++ {
		submit(t, c, id, 0, 7-id)
	}
	submit(t, c, 5, 1, 0)
	after(t, c, 6, 0, 0, 9)
	submit(t, c, 7, 0, 0, 5, 6)
	s := c.State()
	hold(t, "queue", fmt.Sprint(s.Slots, s.Local, s.Shared), "[{7 4} {0 5}] [[{15 3}] []] [{31 2} {63 1}]")
	for i, id := range []int{4, 3, 1, 7, 6} {
		hold(t, "Cancel", c.Cancel(id), api.OK)
		hold(t, "Status", c.Status(id), api.SCancelled)
		hold(t, "Free", c.State().Free, 3+i)
		hold(t, "Cancel again", c.Cancel(id), api.ErrLate)
	}
	s = c.State()
	hold(t, "queue", fmt.Sprint(s.Slots, s.Local, s.Shared, s.Timers), "[{0 5}] [[] []] [{31 2}] []")
	claim(t, c, 1, 5)
	finish(t, c, 1, 5, true)
	hold(t, "states", states(c), "6266466/8")
}

// 18.2, 18.5: with a task go all that wait for it, by way of others too, rising, and none that only stands beside.
func TestCancelTakesWaitersWith(t *testing.T) {
	c := made(t, api.Conf{Threads: 1, K: 0, Credits: 9})
	submit(t, c, 1, 0, 0)
	submit(t, c, 2, 0, 0)
	submit(t, c, 3, 0, 0, 2)
	submit(t, c, 4, 0, 0, 1)
	submit(t, c, 5, 0, 0, 3, 4)
	submit(t, c, 6, 0, 0, 3)
	submit(t, c, 7, 0, 0, 5, 1)
	n := len(c.Events())
	hold(t, "Cancel", c.Cancel(1), api.OK)
	hold(t, "states", states(c), "6216616/6")
	hold(t, "told", told(c, n), []api.Event{{Kind: api.ECancel, T: -1, ID: 1}, {Kind: api.ECancel, T: -1, ID: 4}, {Kind: api.ECancel, T: -1, ID: 5}, {Kind: api.ECancel, T: -1, ID: 7}})
	hold(t, "Cancel of one that went", c.Cancel(5), api.ErrLate)
	claim(t, c, 0, 2)
	finish(t, c, 0, 2, true)
	hold(t, "states", states(c), "6426616/7")
}

// 18.2, rule 8: what is claimed or over is not cancelled, and what is none neither.
func TestCancelRefused(t *testing.T) {
	c := small(t)
	for id := 1; id <= 3; id++ {
		submit(t, c, id, 0, 0)
		claim(t, c, 0, id)
	}
	finish(t, c, 0, 1, true)
	finish(t, c, 0, 2, false)
	shown := picture(c)
	for id := 1; id <= 3; id++ {
		hold(t, "Cancel", c.Cancel(id), api.ErrLate)
	}
	for _, id := range append([]int{0, 4}, wild...) {
		hold(t, fmt.Sprint("Cancel ", id), c.Cancel(id), api.ErrArg)
		hold(t, fmt.Sprint("Status ", id), c.Status(id), 0)
		hold(t, fmt.Sprint("Body ", id), len(c.Body(id)), 0)
	}
	hold(t, "unchanged", picture(c), shown)
}

// 18.2, 18.5: Advance tells the tick ahead of what it releases, by Due, then by ID, each one by that thread.
func TestAdvanceInOrder(t *testing.T) {
	c := made(t, api.Conf{Threads: 2, K: 2, Credits: 9})
	for i, delay := range []uint64{7, 3, 7, 9, 1} {
		after(t, c, i+1, 0, 5-i, delay)
	}
	n := len(c.Events())
	count, e := c.Advance(1, 0)
	hold(t, "Advance", fmt.Sprint(count, e), fmt.Sprint(0, api.OK))
	count, e = c.Advance(1, 7)
	hold(t, "Advance", fmt.Sprint(count, e), fmt.Sprint(4, api.OK))
	hold(t, "told", told(c, n), []api.Event{
		{Kind: api.ETick, T: 1},
		{Kind: api.ETick, T: 1, Now: 7},
		{Kind: api.ERelease, T: 1, ID: 5, Key: 1, Now: 7}, {Kind: api.ERelease, T: 1, ID: 2, Key: 15, Now: 7},
		{Kind: api.ERelease, T: 1, ID: 1, Key: 31, Now: 7}, {Kind: api.ERelease, T: 1, ID: 3, Key: 7, Now: 7},
	})
	s := c.State()
	hold(t, "queue", fmt.Sprint(s.Slots, s.Local, s.Shared, s.Timers), "[{7 3}] [[] []] [{1 5} {15 2} {31 1}] [{9 4}]")
	hold(t, "Due", s.Tasks[4].Due, 1)
}

// 18.2, 18.3, rule 8: no thread, no change.
func TestNoThread(t *testing.T) {
	c := small(t)
	submit(t, c, 1, 0, 0)
	after(t, c, 2, 0, 0, 1)
	submit(t, c, 3, 0, 0)
	claim(t, c, 0, 3)
	shown := picture(c)
	for _, by := range append([]int{2, 3, 8}, wild...) {
		n, e := c.Advance(by, 5)
		hold(t, "Advance", fmt.Sprint(n, e), fmt.Sprint(0, api.ErrArg))
		hold(t, "Settle", c.Settle(by), false)
		x, ok := c.Look(by, 5)
		hold(t, "Look", fmt.Sprint(x, ok), "{0 0} false")
		hold(t, "Claim", c.Claim(by, api.Entry{ID: 1}), api.ErrArg)
		hold(t, "Claim", c.Claim(by, api.Entry{Key: 5, ID: 2}), api.ErrArg)
		hold(t, "Finish", c.Finish(by, 3, true), api.ErrArg)
		hold(t, "Finish", c.Finish(by, 1, true), api.ErrArg)
	}
	hold(t, "unchanged", picture(c), shown)
}

// 18.3: Settle goes as the queue's: slot, own list, shared.
func TestSettle(t *testing.T) {
	c := small(t)
	submit(t, c, 1, 0, 0)
	hold(t, "Settle", fmt.Sprint(c.Settle(1), c.Settle(0), c.Settle(0)), "false true false")
	s := c.State()
	hold(t, "queue", fmt.Sprint(s.Slots, s.Local, s.Shared), "[] [[{0 1}] []] []")
	submit(t, c, 2, 0, 0)
	c.Settle(0)
	s = c.State()
	hold(t, "queue", fmt.Sprint(s.Slots, s.Local, s.Shared), "[] [[] []] [{0 1} {0 2}]")
}

// 18.3, 18.5: Look is the least of all if that is overdue, else what the thread finds; it is told, and a Look that is false is not.
func TestLook(t *testing.T) {
	c := made(t, api.Conf{Threads: 2, K: 1, Credits: 9})
	submit(t, c, 1, 1, 2)
	submit(t, c, 2, 0, 6)
	submit(t, c, 3, 0, 5)
	submit(t, c, 4, 0, 4)
	submit(t, c, 5, 0, 4)
	n := len(c.Events())
	// The least stands in the other's slot; the first two of the shared one are 31:3 and 63:2, and the own list has 15:4.
	look := func(by int, draw uint64, want api.Entry) {
		t.Helper()
		e, ok := c.Look(by, draw)
		hold(t, "Look", fmt.Sprint(e, ok), fmt.Sprint(want, true))
	}
	look(0, 0, api.Entry{Key: 15, ID: 4})
	look(1, 0, api.Entry{Key: 31, ID: 3})
	look(1, last, api.Entry{Key: 63, ID: 2})
	hold(t, "told", told(c, n), []api.Event{
		{Kind: api.ELook, T: 0, ID: 4, Key: 15}, {Kind: api.ELook, T: 1, ID: 3, Key: 31}, {Kind: api.ELook, T: 1, ID: 2, Key: 63},
	})
	for _, id := range []int{2, 5} {
		claim(t, c, 1, id)
	}
	look(0, 0, api.Entry{Key: 15, ID: 4})
	look(1, 0, api.Entry{Key: 31, ID: 3})
	claim(t, c, 1, 3)
	// It is ticket 3: the least, 3:1, is overdue.
	look(0, 0, api.Entry{Key: 3, ID: 1})
	look(1, 0, api.Entry{Key: 3, ID: 1})
	claim(t, c, 0, 1)
	look(1, 9, api.Entry{Key: 15, ID: 4})
	claim(t, c, 1, 4)
	n = len(c.Events())
	e, ok := c.Look(0, 0)
	hold(t, "Look of an empty queue", fmt.Sprint(e, ok, len(c.Events())-n), "{0 0} false 0")
}

// 18.3, 18.5: Claim takes out of the queue, wherever the task stands, and the ticket rises behind it.
func TestClaim(t *testing.T) {
	c := small(t)
	submit(t, c, 1, 0, 0)
	submit(t, c, 2, 0, 0)
	submit(t, c, 3, 0, 0)
	after(t, c, 4, 0, 0, 5)
	shown := picture(c)
	hold(t, "another key", c.Claim(0, api.Entry{Key: 1, ID: 1}), api.ErrLate)
	hold(t, "waiting", c.Claim(0, api.Entry{ID: 4}), api.ErrLate)
	for _, id := range append([]int{0, 5}, wild...) {
		hold(t, "no task", c.Claim(0, api.Entry{ID: id}), api.ErrArg)
	}
	hold(t, "unchanged", picture(c), shown)
	n := len(c.Events())
	for _, id := range []int{2, 3, 1} {
		hold(t, "Claim", c.Claim(id%2, api.Entry{ID: id}), api.OK)
		hold(t, "Claim again", c.Claim(id%2, api.Entry{ID: id}), api.ErrLate)
	}
	hold(t, "told", told(c, n), []api.Event{{Kind: api.EClaim, ID: 2}, {Kind: api.EClaim, T: 1, ID: 3, Ticket: 1}, {Kind: api.EClaim, T: 1, ID: 1, Ticket: 2}})
	s := c.State()
	hold(t, "State", fmt.Sprint(s.Ticket, s.Slots, s.Local, s.Shared), "3 [] [[] []] []")
	hold(t, "states", states(c), "3331/0")
}

// 18.3, rule 8: what is not claimed is not finished.
func TestFinishRefused(t *testing.T) {
	c := made(t, api.Conf{Threads: 1, K: 0, Credits: 9})
	submit(t, c, 1, 0, 0)
	submit(t, c, 2, 0, 0)
	submit(t, c, 3, 0, 0)
	submit(t, c, 4, 0, 0, 3)
	every(t, c, 5, 0, 0, 0, 1)
	after(t, c, 6, 0, 0, 1)
	claim(t, c, 0, 1)
	claim(t, c, 0, 2)
	finish(t, c, 0, 1, true)
	finish(t, c, 0, 2, false)
	c.Cancel(6)
	shown := picture(c)
	for _, ok := range []bool{true, false} {
		for id := 1; id <= 6; id++ {
			hold(t, "Finish", c.Finish(0, id, ok), api.ErrState)
		}
		for _, id := range append([]int{0, 7}, wild...) {
			hold(t, "Finish", c.Finish(0, id, ok), api.ErrArg)
		}
	}
	hold(t, "unchanged", picture(c), shown)
}

// 18.3, 18.5: done: what waited for it last is released by that thread, rising.
func TestFinishDone(t *testing.T) {
	c := made(t, api.Conf{Threads: 2, K: 3, Credits: 9})
	submit(t, c, 1, 0, 0)
	submit(t, c, 2, 0, 0)
	submit(t, c, 3, 0, 1, 1)
	submit(t, c, 4, 0, 2, 1, 2)
	submit(t, c, 5, 0, 3, 1)
	submit(t, c, 6, 0, 0, 3)
	claim(t, c, 0, 1)
	n := len(c.Events())
	finish(t, c, 1, 1, true)
	hold(t, "states", states(c), "422121/4")
	hold(t, "told", told(c, n), []api.Event{
		{Kind: api.EDone, T: 1, ID: 1, Ticket: 1}, {Kind: api.ERelease, T: 1, ID: 3, Key: 2, Ticket: 1}, {Kind: api.ERelease, T: 1, ID: 5, Key: 8, Ticket: 1},
	})
	hold(t, "task", c.State().Tasks[0], api.Task{ID: 1, State: api.SDone, Runs: 1})
}

// 18.3, 18.5: failed: what waits for it is cancelled, rising, with its credits.
func TestFinishFailed(t *testing.T) {
	c := made(t, api.Conf{Threads: 2, K: 3, Credits: 9})
	submit(t, c, 1, 0, 0)
	submit(t, c, 2, 0, 0)
	submit(t, c, 3, 0, 0, 2)
	submit(t, c, 4, 0, 0, 1, 2)
	submit(t, c, 5, 0, 0, 4)
	claim(t, c, 0, 1)
	n := len(c.Events())
	finish(t, c, 1, 1, false)
	hold(t, "states", states(c), "52166/7")
	hold(t, "told", told(c, n), []api.Event{{Kind: api.EFail, T: 1, ID: 1, Ticket: 1}, {Kind: api.ECancel, T: -1, ID: 4, Ticket: 1}, {Kind: api.ECancel, T: -1, ID: 5, Ticket: 1}})
	hold(t, "task", c.State().Tasks[0], api.Task{ID: 1, State: api.SFailed, Runs: 1})
	claim(t, c, 0, 2)
	finish(t, c, 0, 2, true)
	hold(t, "states", states(c), "54266/8")
}

// 18.3, 18.5, W2: what comes again keeps its credit and is waited for still; it is due at the next tick of its grid, and not claimed ahead of it.
func TestFinishAgain(t *testing.T) {
	c := made(t, api.Conf{Threads: 2, K: 1, Credits: 3})
	every(t, c, 1, 0, 1, 2, 3)
	submit(t, c, 2, 0, 0, 1)
	hold(t, "ahead of its tick", c.Claim(0, api.Entry{ID: 1}), api.ErrLate)
	c.Advance(0, 2)
	claim(t, c, 0, 1)
	c.Advance(0, 7)
	n := len(c.Events())
	finish(t, c, 1, 1, true)
	hold(t, "told", told(c, n), []api.Event{{Kind: api.EAgain, T: 1, ID: 1, Ticket: 1, Now: 9}})
	hold(t, "task", c.State().Tasks[0], api.Task{ID: 1, Prio: 1, State: api.SWaiting, Due: 11, Key: 1, Runs: 1, Missed: 2})
	hold(t, "states", states(c), "11/1")
	hold(t, "Timers", c.State().Timers, []api.Timer{{Due: 11, ID: 1}})
	c.Advance(1, 1)
	hold(t, "ahead of its tick", c.Claim(0, api.Entry{Key: 1, ID: 1}), api.ErrLate)
	n2, _ := c.Advance(1, 1)
	hold(t, "Advance", n2, 1)
	claim(t, c, 0, 1)
	finish(t, c, 0, 1, false)
	hold(t, "task", c.State().Tasks[0], api.Task{ID: 1, Prio: 1, State: api.SFailed, Due: 11, Key: 2, Runs: 2, Missed: 2})
	hold(t, "states", states(c), "56/3")
}

// 18.3: of one that comes again and is done or failed Runs and Missed go on, and its Due stays.
func TestLastRunCounts(t *testing.T) {
	for _, ok := range []bool{true, false} {
		c := small(t)
		every(t, c, 1, 0, 0, 0, 2)
		claim(t, c, 0, 1)
		c.Advance(0, 5)
		c.Shutdown()
		finish(t, c, 0, 1, ok)
		want := api.Task{ID: 1, State: api.SFailed, Runs: 1, Missed: 2}
		if ok {
			want.State = api.SDone
		}
		hold(t, "task", c.State().Tasks[0], want)
		hold(t, "timers", len(c.State().Timers), 0)
		hold(t, "Drained", c.Drained(), true)
	}
}

// 18.4, 18.5: Shutdown cancels what is in the wheel, rising, right behind each what waits for it; all these are answered, rising, each time.
func TestShutdown(t *testing.T) {
	c := made(t, api.Conf{Threads: 2, K: 1, Credits: 20})
	after(t, c, 1, 0, 0, 9)
	every(t, c, 2, 0, 0, 3, 3)
	submit(t, c, 3, 0, 0)
	submit(t, c, 4, 0, 0, 2, 3)
	submit(t, c, 5, 0, 0, 1)
	submit(t, c, 6, 0, 0, 3)
	submit(t, c, 7, 0, 0, 5, 4)
	every(t, c, 8, 0, 0, 0, 3)
	after(t, c, 9, 0, 0, 1)
	claim(t, c, 0, 8)
	n := len(c.Events())
	hold(t, "Drained", c.Drained(), false)
	hold(t, "Shutdown", c.Shutdown(), []int{1, 2, 4, 5, 7, 9})
	var want []api.Event
	for _, id := range []int{0, 1, 5, 7, 2, 4, 9} {
		want = append(want, api.Event{Kind: api.ECancel, T: -1, ID: id, Ticket: 1})
	}
	want[0].Kind = api.EClose
	hold(t, "told", told(c, n), want)
	hold(t, "states", states(c), "662661636/17")
	hold(t, "timers", fmt.Sprint(c.State().Timers, c.State().Closed), "[] true")
	shown := picture(c)
	hold(t, "Shutdown again", c.Shutdown(), []int{1, 2, 4, 5, 7, 9})
	hold(t, "unchanged", picture(c), shown)
	// What is ready or claimed still runs, and frees what waits for it; nothing comes again.
	finish(t, c, 0, 8, true)
	count, e := c.Advance(0, 100)
	hold(t, "Advance", fmt.Sprint(count, e), fmt.Sprint(0, api.OK))
	claim(t, c, 0, 3)
	finish(t, c, 0, 3, true)
	hold(t, "Drained", c.Drained(), false)
	hold(t, "Cancel", c.Cancel(6), api.OK)
	hold(t, "Drained", c.Drained(), true)
	hold(t, "states", states(c), "664666646/20")
	hold(t, "Shutdown again", c.Shutdown(), []int{1, 2, 4, 5, 7, 9})
}

// 18.4: Drained waits for each that is waiting, ready or claimed; and nothing is drained that is not shut down.
func TestDrained(t *testing.T) {
	c := small(t)
	submit(t, c, 1, 0, 0)
	submit(t, c, 2, 0, 0, 1)
	c.Shutdown()
	hold(t, "ready and waiting", c.Drained(), false)
	claim(t, c, 0, 1)
	hold(t, "claimed and waiting", c.Drained(), false)
	finish(t, c, 0, 1, true)
	hold(t, "ready", c.Drained(), false)
	claim(t, c, 0, 2)
	hold(t, "claimed", c.Drained(), false)
	finish(t, c, 0, 2, true)
	hold(t, "all over", c.Drained(), true)
	d := small(t)
	hold(t, "new", d.Drained(), false)
	hold(t, "Shutdown", len(d.Shutdown()), 0)
	hold(t, "empty", d.Drained(), true)
	hold(t, "told", d.Events(), []api.Event{{Kind: api.EClose, T: -1}})
}

// W6, 18.1: credits come back with each end, and no more of them than went out.
func TestCredits(t *testing.T) {
	c := made(t, api.Conf{Threads: 1, K: 0, Credits: 2})
	ends := []func(id int){
		func(id int) { c.Cancel(id) },
		func(id int) { claim(t, c, 0, id); finish(t, c, 0, id, true) },
		func(id int) { claim(t, c, 0, id); finish(t, c, 0, id, false) },
	}
	for i := range 60 {
		submit(t, c, 2*i+1, 0, 0)
		submit(t, c, 2*i+2, 0, 0, 2*i+1)
		id, e := c.Submit(0, 0, nil, nil)
		hold(t, "third", fmt.Sprint(id, e, c.State().Free), fmt.Sprint(0, api.ErrFull, 0))
		ends[i%3](2*i + 1)
		if i%3 == 1 {
			hold(t, "Free", c.State().Free, 1)
			ends[i/3%3](2*i + 2)
		}
		hold(t, "Free", c.State().Free, 2)
	}
}

// Rule 3: what is handed in is not changed and not kept, nor the room behind it.
func TestHandedInStays(t *testing.T) {
	c := small(t)
	submit(t, c, 1, 0, 0)
	submit(t, c, 2, 0, 0)
	ops := []api.Op{{Kind: api.BNop}, {Kind: api.BPanic}, {Kind: api.BCancel, A: 9}}
	preds := []int{2, 1, 2, 7}
	id, e := c.Submit(0, 0, ops[:2], preds[:3])
	must(t, 3, id, e)
	hold(t, "ops", ops, "[{1 0 0} {5 0 0} {4 9 0}]")
	hold(t, "preds", preds, "[2 1 2 7]")
	id, e = c.After(0, 0, ops[:1], 5)
	must(t, 4, id, e)
	ops[0], preds[0], preds[1] = api.Op{Kind: 99}, 99, 99
	hold(t, "bodies", fmt.Sprint(c.Body(3), c.Body(4)), "[{1 0 0} {5 0 0}] [{1 0 0}]")
	c.Cancel(2)
	hold(t, "states", states(c), "2661/2")
}

// Rule 3: an answer is new memory, its spare room too.
func TestAnswersAreNew(t *testing.T) {
	c := made(t, api.Conf{Threads: 2, K: 1, Credits: 20})
	id, e := c.Submit(0, 0, []api.Op{{Kind: api.BNop}, {Kind: api.BPanic}}, nil)
	must(t, 1, id, e)
	for id := 2; id <= 4; id++ {
		submit(t, c, id, 0, 0)
	}
	submit(t, c, 5, 1, 0)
	after(t, c, 6, 0, 0, 5)
	after(t, c, 7, 0, 0, 6)
	shown := picture(c)
	spoil(c)
	hold(t, "unchanged", picture(c), shown)
	gone := c.Shutdown()
	wipe(gone)
	hold(t, "Shutdown", c.Shutdown(), []int{6, 7})
	shown = picture(c)
	spoil(c)
	hold(t, "unchanged", picture(c), shown)
	// What was answered earlier does not go on with the core.
	events, state := c.Events(), c.State()
	before := fmt.Sprint(events, state)
	claim(t, c, 0, 1)
	c.Advance(0, 1)
	c.Settle(0)
	c.Cancel(2)
	hold(t, "earlier answers", fmt.Sprint(events, state), before)
}

// wipe overwrites a list and its spare room.
func wipe[T any](l []T) {
	var zero T
	l = l[:cap(l)]
	for i := range l {
		l[i] = zero
	}
}

// spoil overwrites all that a core answers.
func spoil(c *core.Core) {
	s := c.State()
	wipe(s.Tasks)
	wipe(s.Slots)
	wipe(s.Shared)
	wipe(s.Timers)
	for _, own := range s.Local {
		wipe(own)
	}
	wipe(s.Local)
	wipe(c.Events())
	for id := range 9 {
		wipe(c.Body(id))
	}
}

// Two cores share nothing.
func TestTwoCores(t *testing.T) {
	a, b := small(t), small(t)
	submit(t, a, 1, 0, 0)
	after(t, a, 2, 0, 0, 3)
	submit(t, a, 3, 0, 0, 1)
	a.Advance(0, 2)
	claim(t, a, 0, 1)
	a.Shutdown()
	hold(t, "the other", picture(b), picture(small(t)))
	shown := picture(a)
	submit(t, b, 1, 1, 1)
	b.Cancel(1)
	hold(t, "the first", picture(a), shown)
}

// 18.6, W11: whatever numbers come, every call ends and none panics, and all that is not over has a credit.
func TestWildNumbers(t *testing.T) {
	numbers := append([]int{0, 1, 2, 3, 7, 8}, wild...)
	words := []uint64{0, 1, 2, 63, 64, 1 << 24, 1 << 63, last - 1, last}
	s := source(7)
	for range 200 {
		c := made(t, api.Conf{Threads: 1 + s.draw(8), K: s.draw(17), Credits: 1 + s.draw(64)})
		n := func() int { return numbers[s.draw(len(numbers))] }
		id := func() int { return []int{n(), 1 + s.draw(9)}[s.draw(2)] }
		w := func() uint64 { return words[s.draw(len(words))] }
		for range 60 {
			x := call{kind: s.draw(doKinds), t: []int{n(), 0}[s.draw(2)], prio: []int{n(), s.draw(8)}[s.draw(2)], id: id(), n: w(), m: w(), ok: s.draw(2) > 0}
			for range s.draw(3) {
				x.preds = append(x.preds, id())
			}
			if x.kind != doShutdown || s.draw(20) == 0 {
				play(c, x)
			}
			creditsHold(t, c)
		}
	}
}

// creditsHold: W6: a credit is out for each task that is not over.
func creditsHold(t *testing.T, c *core.Core) {
	t.Helper()
	s := c.State()
	out := 0
	for _, x := range s.Tasks {
		if !over(x.State) {
			out++
		}
	}
	if out+s.Free != c.Conf().Credits || s.Free < 0 {
		t.Fatalf("%d are not over, %d credits are free", out, s.Free)
	}
}
