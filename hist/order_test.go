package hist_test

import (
	"fmt"
	"slices"
	"testing"

	"verger/api"
	"verger/core"
	"verger/exec"
	"verger/hist"
)

// ops is a drawn body.
func (s *source) ops() []api.Op {
	var l []api.Op
	for range s.draw(6) * s.draw(4) {
		l = append(l, []api.Op{
			{Kind: api.BNop}, {Kind: api.BSubmit, A: s.draw(8)}, {Kind: api.BAfter, A: s.draw(8), B: s.draw(4)},
			{Kind: api.BCancel, A: 1 + s.draw(90)}, {Kind: api.BPanic},
		}[s.draw(5)])
	}
	return l
}

// conf is a drawn one.
func (s *source) conf() api.Conf {
	return api.Conf{Threads: 1 + s.draw(8), K: s.draw(17) / (1 + s.draw(9)), Credits: 1 + s.draw(64)}
}

// let does something at the core that no worker does.
func (s *source) let(c *core.Core) {
	by, prio, l, n := s.draw(c.Conf().Threads), s.draw(8), s.ops(), uint64(s.draw(5))
	id := 1 + s.draw(len(c.State().Tasks)+1)
	switch s.draw(8) {
	case 0:
		c.Cancel(id)
	case 1:
		c.Advance(by, n)
	case 2:
		c.Every(by, prio, l, n, 3)
	case 3:
		c.After(by, prio, l, n)
	case 4:
		c.Submit(by, prio, l, []int{id})
	case 5:
		if s.draw(60) == 0 {
			c.Shutdown()
		}
	default:
		c.Submit(by, prio, l, nil)
	}
}

// season is a long drawn row of calls and picks of a machine; each is asked behind every step.
func season(t *testing.T, s *source, each func(m *exec.Machine)) *exec.Machine {
	t.Helper()
	m, fault := exec.New(s.conf())
	if fault != api.OK {
		t.Fatal(fault)
	}
	for range 300 {
		if s.draw(6) == 0 {
			s.let(m.Core())
		} else {
			m.Pick(s.word(), s.word())
		}
		each(m)
	}
	return m
}

// queued is what is in a core's queue, in order.
func queued(c *core.Core) []api.Entry {
	s := c.State()
	l := slices.Concat(s.Slots, slices.Concat(s.Local...), s.Shared)
	slices.SortFunc(l, func(a, b api.Entry) int {
		if a.Key < b.Key || a.Key == b.Key && a.ID < b.ID {
			return -1
		}
		return 1
	})
	return l
}

// W3, 21.3: what an executor tells is Ok at each moment, and Ready what is in its queue then.
func TestExecutorsAreOk(t *testing.T) {
	s := source(20261119)
	for range 40 {
		n := 0
		season(t, &s, func(m *exec.Machine) {
			l := m.Core().Events()
			if fault := hist.Ok(m.Core().Conf(), l); fault != api.OK {
				t.Fatalf("Ok = %d of\n%s", fault, hist.Text(l))
			}
			if got, want := fmt.Sprint(hist.Ready(l, len(l))), fmt.Sprint(queued(m.Core())); got != want {
				t.Fatalf("Ready = %s, want %s, of\n%s", got, want, hist.Text(l))
			}
			n = len(l)
		})
		if n == 0 {
			t.Error("nothing is told")
		}
	}
}

// ends has for each state the kind of event that is the last one of a task's life then.
var ends = map[int][]int{
	api.SWaiting:   {api.EMake, api.EAgain},
	api.SReady:     {api.ERelease},
	api.SClaimed:   {api.EClaim},
	api.SDone:      {api.EDone},
	api.SFailed:    {api.EFail},
	api.SCancelled: {api.ECancel},
}

// W3, 21.2: of what an executor tells, lives end as the tasks stand, claims are as many as the ticket, and all calls are as the chapter says.
func TestExecutorsAreTold(t *testing.T) {
	s := source(99)
	for range 60 {
		m := season(t, &s, func(*exec.Machine) {})
		for range 2 {
			c := m.Core()
			l, state := c.Events(), c.State()
			alike(t, l)
			hold(t, "len of Claims", len(hist.Claims(l)), state.Ticket)
			hold(t, "lives", len(hist.Life(l, len(state.Tasks)+1)), 0)
			for _, task := range state.Tasks {
				life := hist.Life(l, task.ID)
				if len(life) == 0 || life[0] != api.EMake || !slices.Contains(ends[task.State], life[len(life)-1]) {
					t.Errorf("Life of %d = %v, of state %d", task.ID, life, task.State)
				}
			}
			c.Shutdown()
			m.Rest(1000, s.word())
		}
	}
}

// W3, 21.3: a machine of 200 tasks is Ok, to its end.
func TestMostTasks(t *testing.T) {
	conf := api.Conf{Threads: 8, K: 16, Credits: 64}
	m, _ := exec.New(conf)
	for n := range 200 {
		if id, fault := m.Core().Submit(n%8, n%8, nil, nil); id != n+1 || fault != api.OK {
			t.Fatalf("%d, %d", id, fault)
		}
		if n%60 == 59 {
			m.Rest(1000, uint64(n))
		}
	}
	m.Core().Shutdown()
	m.Rest(1000, 1)
	l := m.Core().Events()
	hold(t, "Ok", hist.Ok(conf, l), api.OK)
	hold(t, "len of Claims", len(hist.Claims(l)), 200)
	hold(t, "Ready", hist.Ready(l, len(l)), "[]")
	hold(t, "Life", hist.Life(l, 200), "[1 2 3 4]")
}
