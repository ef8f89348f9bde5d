package drain_test

import (
	"fmt"
	"math"
	"slices"
	"testing"

	"verger/api"
	"verger/core"
	"verger/drain"
	"verger/exec"
)

// most is how many rounds a Close has at most.
const most = 100_000

// words has draws whose upper bits tell.
var words = []uint64{0, 1, 2, 3, 7, 63, 1<<31 - 1, 1 << 32, 1<<63 - 1, 1 << 63, 1<<63 + 1, math.MaxUint64 - 1, math.MaxUint64}

func made(t *testing.T, conf api.Conf) *exec.Machine {
	t.Helper()
	m, fault := exec.New(conf)
	if m == nil || fault != api.OK {
		t.Fatalf("New(%v) = %v, %d", conf, m, fault)
	}
	return m
}

func hold(t *testing.T, what string, got, want any) {
	t.Helper()
	if g, w := fmt.Sprint(got), fmt.Sprint(want); g != w {
		t.Errorf("%s: %s, want %s", what, g, w)
	}
}

// picks lets these workers step, one by one.
func picks(m *exec.Machine, threads ...uint64) {
	for _, by := range threads {
		m.Pick(by, 0)
	}
}

// picture is all that can be asked of a machine and changes nothing.
func picture(m *exec.Machine) string {
	c := m.Core()
	s := fmt.Sprintf("%+v\n%+v\n%t %d %v %t", c.State(), c.Events(), c.Drained(), m.Picks(), m.Did(), m.Quiet())
	for by := range c.Conf().Threads {
		w, _ := m.Worker(by)
		s += fmt.Sprintf(" %+v", w)
	}
	return s
}

// nothingLeft holds W8 of a machine that was closed: no task is left, all credits are free, and nothing is anywhere.
func nothingLeft(t *testing.T, m *exec.Machine) {
	t.Helper()
	c := m.Core()
	s := c.State()
	for _, task := range s.Tasks {
		if task.State != api.SDone && task.State != api.SFailed && task.State != api.SCancelled {
			t.Fatalf("%+v is left", task)
		}
	}
	for by := range c.Conf().Threads {
		if w, _ := m.Worker(by); w != (api.Worker{}) {
			t.Fatalf("%+v is at work", w)
		}
	}
	some := len(s.Slots) + len(s.Shared) + len(s.Timers) + len(slices.Concat(s.Local...)) + len(drain.Left(m))
	if some > 0 || s.Free != c.Conf().Credits || !s.Closed || !c.Drained() || !m.Quiet() || drain.Check(m) != api.OK {
		t.Fatalf("left: %+v", s)
	}
}

// ends is a Close that must come to that.
func ends(t *testing.T, m *exec.Machine, draw uint64, want api.End) {
	t.Helper()
	before := m.Picks()
	end, ok := drain.Close(m, draw)
	if !ok || fmt.Sprint(end) != fmt.Sprint(want) {
		t.Fatalf("Close: %+v, %t, want %+v", end, ok, want)
	}
	hold(t, "Picks of a Close", m.Picks()-before, want.Rounds*m.Core().Conf().Threads)
	nothingLeft(t, m)
}

// The chapter's example, of all numbers of threads and for all draws.
func TestExample(t *testing.T) {
	for threads := 1; threads <= api.MaxThreads; threads++ {
		for _, draw := range words {
			m := made(t, api.Conf{Threads: threads, K: 3, Credits: 5})
			hold(t, "Left", len(drain.Left(m)), 0)
			hold(t, "Check", drain.Check(m), api.OK)
			ends(t, m, draw, api.End{})
			hold(t, "Events", len(m.Core().Events()), 1)
		}
	}
}

var (
	nop    = api.Op{Kind: api.BNop}
	panics = api.Op{Kind: api.BPanic}
)

// closings has what was done ahead of a Close, upon two threads or one, and what it comes to.
var closings = []struct {
	name    string
	threads int
	do      func(m *exec.Machine, c *core.Core)
	end     api.End
}{
	{"one that is ready", 1, func(m *exec.Machine, c *core.Core) {
		c.Submit(0, 3, nil, nil)
	}, api.End{Done: 1, Rounds: 4}},
	{"its ops are done", 1, func(m *exec.Machine, c *core.Core) {
		c.Submit(0, 3, []api.Op{nop, nop, nop}, nil)
	}, api.End{Done: 1, Rounds: 7}},
	{"it panics", 1, func(m *exec.Machine, c *core.Core) {
		c.Submit(0, 3, []api.Op{panics, nop}, nil)
	}, api.End{Failed: 1, Rounds: 5}},
	{"it was looked at", 1, func(m *exec.Machine, c *core.Core) {
		c.Submit(0, 3, nil, nil)
		picks(m, 0, 0)
	}, api.End{Done: 1, Rounds: 2}},
	{"it was claimed", 1, func(m *exec.Machine, c *core.Core) {
		c.Submit(0, 3, []api.Op{nop}, nil)
		picks(m, 0, 0, 0)
	}, api.End{Done: 1, Rounds: 2}},
	{"it is done", 1, func(m *exec.Machine, c *core.Core) {
		c.Submit(0, 3, nil, nil)
		picks(m, 0, 0, 0, 0)
	}, api.End{Done: 1}},
	{"all are over, but a worker has something in hand", 1, func(m *exec.Machine, c *core.Core) {
		c.Submit(0, 3, nil, nil)
		picks(m, 0, 0)
		c.Cancel(1)
	}, api.End{Cancelled: 1, Rounds: 1}},
	{"a worker of several has something in hand", 8, func(m *exec.Machine, c *core.Core) {
		c.Submit(7, 3, nil, nil)
		picks(m, 7, 7)
		c.Cancel(1)
	}, api.End{Cancelled: 1, Rounds: 1}},
	{"two look at one", 2, func(m *exec.Machine, c *core.Core) {
		c.Submit(0, 3, nil, nil)
		picks(m, 0)
	}, api.End{Done: 1, Rounds: 3}},
	{"two are done at one time", 2, func(m *exec.Machine, c *core.Core) {
		c.Submit(0, 3, nil, nil)
		c.Submit(1, 3, nil, nil)
		picks(m, 0, 1, 0, 0, 1)
	}, api.End{Done: 2, Rounds: 2}},
	{"it waits for a tick", 1, func(m *exec.Machine, c *core.Core) {
		c.After(0, 0, nil, 1)
	}, api.End{Cancelled: 1, Gone: []int{1}}},
	{"it waits for a tick that came", 1, func(m *exec.Machine, c *core.Core) {
		c.After(0, 0, nil, 1)
		c.Advance(0, 1)
	}, api.End{Done: 1, Rounds: 4}},
	{"others wait for what waits for a tick", 1, func(m *exec.Machine, c *core.Core) {
		c.Submit(0, 0, nil, nil)
		c.After(0, 0, nil, 9)
		c.Submit(0, 0, nil, []int{1, 2})
		c.Submit(0, 0, nil, []int{1})
		c.After(0, 0, nil, 8)
		c.Submit(0, 0, nil, []int{3, 4})
	}, api.End{Done: 2, Cancelled: 4, Gone: []int{2, 3, 5, 6}, Rounds: 8}},
	{"others wait for what panics", 1, func(m *exec.Machine, c *core.Core) {
		c.Submit(0, 0, []api.Op{panics}, nil)
		c.Submit(0, 0, nil, []int{1})
		c.Submit(0, 0, nil, []int{2})
	}, api.End{Failed: 1, Cancelled: 2, Rounds: 5}},
	{"some were cancelled", 1, func(m *exec.Machine, c *core.Core) {
		c.Submit(0, 0, nil, nil)
		c.Submit(0, 0, nil, []int{1})
		c.Submit(0, 0, nil, nil)
		c.Cancel(1)
	}, api.End{Done: 1, Cancelled: 2, Rounds: 4}},
	{"it comes again no more", 1, func(m *exec.Machine, c *core.Core) {
		c.Every(0, 0, nil, 0, 1)
	}, api.End{Done: 1, Rounds: 4}},
	{"it was to come again", 1, func(m *exec.Machine, c *core.Core) {
		c.Every(0, 0, nil, 0, 1)
		picks(m, 0, 0, 0, 0)
	}, api.End{Cancelled: 1, Gone: []int{1}}},
	{"nothing more is let in", 1, func(m *exec.Machine, c *core.Core) {
		c.Submit(0, 0, []api.Op{{Kind: api.BSubmit}, {Kind: api.BAfter, B: 1}}, nil)
	}, api.End{Done: 1, Rounds: 6}},
	{"what was let in ahead is done", 1, func(m *exec.Machine, c *core.Core) {
		c.Submit(0, 0, []api.Op{{Kind: api.BSubmit}, {Kind: api.BAfter, B: 1}}, nil)
		picks(m, 0, 0, 0, 0, 0)
	}, api.End{Done: 2, Cancelled: 1, Gone: []int{3}, Rounds: 5}},
	{"one cancels another", 1, func(m *exec.Machine, c *core.Core) {
		c.Submit(0, 0, []api.Op{{Kind: api.BCancel, A: 2}}, nil)
		c.Submit(0, 0, nil, nil)
	}, api.End{Done: 1, Cancelled: 1, Rounds: 5}},
	{"the core was closed", 1, func(m *exec.Machine, c *core.Core) {
		c.After(0, 0, nil, 5)
		c.Submit(0, 0, nil, nil)
		c.After(0, 0, nil, 5)
		c.Shutdown()
		picks(m, 0, 0)
	}, api.End{Done: 1, Cancelled: 2, Gone: []int{1, 3}, Rounds: 2}},
}

// 23.1: Close tells how many tasks came to each end, what the Shutdown cancelled, and how many rounds that took.
func TestClose(t *testing.T) {
	for _, x := range closings {
		t.Run(x.name, func(t *testing.T) {
			m := made(t, api.Conf{Threads: x.threads, K: 1, Credits: 9})
			x.do(m, m.Core())
			ends(t, m, 0, x.end)
		})
	}
}

// 23.1: a Close of what was closed has no round, and tells the same else; nothing of it has changed.
func TestCloseAgain(t *testing.T) {
	for _, x := range closings {
		m := made(t, api.Conf{Threads: x.threads, K: 1, Credits: 9})
		x.do(m, m.Core())
		drain.Close(m, 5)
		before, want := picture(m), x.end
		want.Rounds = 0
		for _, draw := range words {
			ends(t, m, draw, want)
			hold(t, "picture", picture(m), before)
		}
		if _, fault := m.Core().Submit(0, 0, nil, nil); fault != api.ErrClosed {
			t.Errorf("%s: %d, want ErrClosed", x.name, fault)
		}
	}
}

// 23.1: the draw is that of the rounds: of two in the shared list it says which is claimed first.
func TestCloseDraws(t *testing.T) {
	for _, draw := range words {
		m := made(t, api.Conf{Threads: 1, K: 0, Credits: 9})
		for range 4 {
			m.Core().Submit(0, 7, nil, nil)
		}
		twin := made(t, api.Conf{Threads: 1, K: 0, Credits: 9})
		for range 4 {
			twin.Core().Submit(0, 7, nil, nil)
		}
		end, ok := drain.Close(m, draw)
		want, _ := plainClose(twin, draw)
		hold(t, "End", end, want)
		hold(t, "ok", ok, true)
		hold(t, "picture", picture(m), picture(twin))
	}
}

// 23.1: what somebody has claimed who is no worker is never over: all rounds are had, and nothing is told. When it is over, all is told, what the Shutdown cancelled too.
func TestCloseIsNotEnough(t *testing.T) {
	for _, threads := range []int{1, 3, 8} {
		m := made(t, api.Conf{Threads: threads, K: 1, Credits: 9})
		c := m.Core()
		c.Submit(0, 0, nil, nil)
		c.Submit(0, 0, nil, []int{1})
		c.After(0, 0, nil, 7)
		c.Submit(0, 3, nil, nil)
		hold(t, "Claim", c.Claim(0, api.Entry{ID: 1}), api.OK)
		for n := range 2 {
			if end, ok := drain.Close(m, 0); fmt.Sprint(end) != fmt.Sprint(api.End{}) || ok {
				t.Fatalf("Close: %+v, %t", end, ok)
			}
			hold(t, "Picks", m.Picks(), (n+1)*most*threads)
			hold(t, "Left", drain.Left(m), []int{1, 2})
			hold(t, "Check", drain.Check(m), api.OK)
			hold(t, "Status", c.Status(4), api.SDone)
		}
		hold(t, "Finish", c.Finish(0, 1, false), api.OK)
		ends(t, m, 0, api.End{Done: 1, Failed: 1, Cancelled: 2, Gone: []int{3}})
	}
}

// 23.1: Left is what is not over, of whatever state, rising.
func TestLeft(t *testing.T) {
	m := made(t, api.Conf{Threads: 2, K: 1, Credits: 20})
	c := m.Core()
	c.Submit(0, 0, []api.Op{nop}, nil)    // 1 is claimed
	c.Submit(0, 0, []api.Op{panics}, nil) // 2 fails
	c.Submit(0, 0, nil, []int{2})         // 3 is cancelled with it
	c.Submit(0, 0, nil, nil)              // 4 is done
	c.Submit(0, 0, nil, []int{1})         // 5 waits for 1
	c.After(0, 0, nil, 5)                 // 6 waits for a tick
	c.Submit(0, 0, nil, nil)              // 7 is cancelled
	hold(t, "Left", drain.Left(m), []int{1, 2, 3, 4, 5, 6, 7})
	c.Cancel(7)
	hold(t, "Left", drain.Left(m), []int{1, 2, 3, 4, 5, 6})
	for _, id := range []int{1, 2, 4} {
		hold(t, "Claim", c.Claim(0, api.Entry{ID: id}), api.OK)
	}
	c.Finish(0, 2, false)
	hold(t, "Left", drain.Left(m), []int{1, 4, 5, 6})
	c.Finish(0, 4, true)
	hold(t, "Left", drain.Left(m), []int{1, 5, 6})
	c.Every(0, 0, nil, 0, 3) // 8 is ready
	hold(t, "Left", drain.Left(m), []int{1, 5, 6, 8})
	c.Shutdown()
	hold(t, "Left", drain.Left(m), []int{1, 5, 8})
	c.Finish(0, 1, true)
	hold(t, "Left", drain.Left(m), []int{5, 8})
	ends(t, m, 0, api.End{Done: 4, Failed: 1, Cancelled: 3, Gone: []int{6}, Rounds: 6})
}

// 23.1: of as many tasks as may be, all that are left are told, rising.
func TestLeftOfAll(t *testing.T) {
	m := made(t, api.Conf{Threads: 3, K: 2, Credits: api.MaxCredits})
	for len(m.Core().State().Tasks) < api.MaxTasks {
		m.Core().Submit(1, 5, nil, nil)
		m.Core().After(2, 5, nil, 90)
		m.Core().Cancel(len(m.Core().State().Tasks) - 20)
		left := drain.Left(m)
		if !slices.Equal(left, plainLeft(m)) || !slices.IsSorted(left) {
			t.Fatalf("Left: %v, want %v", left, plainLeft(m))
		}
	}
	hold(t, "Left", len(drain.Left(m)), api.MaxCredits-1)
}

// 23.1: a worker that runs what somebody else has said to be over has no claimed task; so has nobody, where another task was claimed by none of the workers.
func TestCheckCountsWhoRuns(t *testing.T) {
	for _, threads := range []int{1, 2, 8} {
		m := made(t, api.Conf{Threads: threads, K: 1, Credits: 9})
		c, last := m.Core(), uint64(threads-1)
		c.Submit(threads-1, 0, []api.Op{nop}, nil)
		c.Submit(threads-1, 0, nil, nil)
		picks(m, last, last)
		hold(t, "Check of one that has looked", drain.Check(m), api.OK)
		picks(m, last)
		w, _ := m.Worker(threads - 1)
		hold(t, "worker", fmt.Sprint(w.Phase, w.E), fmt.Sprint(api.PRun, api.Entry{ID: 1}))
		hold(t, "Check of one that runs", drain.Check(m), api.OK)
		c.Finish(0, 1, true)
		hold(t, "Check of one that runs nothing", drain.Check(m), api.ErrForm)
		picks(m, last)
		hold(t, "Check behind its op", drain.Check(m), api.ErrForm)
		c.Claim(0, api.Entry{ID: 2})
		hold(t, "Check where another is claimed", drain.Check(m), api.OK)
		c.Finish(0, 2, false)
		hold(t, "Check where none is claimed", drain.Check(m), api.ErrForm)
		picks(m, last)
		hold(t, "Check of an idle one", drain.Check(m), api.OK)
		ends(t, m, 0, api.End{Done: 1, Failed: 1})
	}
}

// 23.1: more may be claimed than workers run, as somebody else may have claimed them.
func TestCheckOfOthersClaims(t *testing.T) {
	m := made(t, api.Conf{Threads: 2, K: 1, Credits: 9})
	for range 3 {
		m.Core().Submit(0, 0, nil, nil)
	}
	for n, e := range m.Core().State().Tasks {
		hold(t, "Claim", m.Core().Claim(1, api.Entry{Key: e.Key, ID: e.ID}), api.OK)
		hold(t, "Check", drain.Check(m), api.OK)
		hold(t, "Ticket", m.Core().State().Ticket, n+1)
	}
}

// 23.1, rule 3: what is answered is new memory, and asking changes nothing.
func TestAnswersAreNew(t *testing.T) {
	for _, x := range closings {
		m := made(t, api.Conf{Threads: x.threads, K: 1, Credits: 9})
		x.do(m, m.Core())
		before := picture(m)
		drain.Check(m)
		left := drain.Left(m)
		want := fmt.Sprint(left)
		spoil(left)
		hold(t, "Left", drain.Left(m), want)
		hold(t, "picture", picture(m), before)
		end, _ := drain.Close(m, 0)
		spoil(end.Gone)
		again, _ := drain.Close(m, 0)
		hold(t, "Gone", again.Gone, x.end.Gone)
		hold(t, "Shutdown", m.Core().Shutdown(), x.end.Gone)
	}
}

// spoil writes over a list, and over the spare room behind it.
func spoil(l []int) {
	l = l[:cap(l)]
	for i := range l {
		l[i] = -7
	}
}
