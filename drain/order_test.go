package drain_test

import (
	"fmt"
	"slices"
	"testing"

	"verger/api"
	"verger/bound"
	"verger/core"
	"verger/drain"
	"verger/exec"
	"verger/hist"
)

// source draws numbers that are always the same.
type source uint64

func (s *source) word() uint64 {
	*s ^= *s << 13
	*s ^= *s >> 7
	*s ^= *s << 17
	return uint64(*s)
}

func (s *source) draw(n int) int {
	return int(s.word() >> 8 % uint64(n))
}

// ops is a drawn body.
func (s *source) ops() []api.Op {
	var l []api.Op
	for range s.draw(6) * s.draw(3) {
		l = append(l, []api.Op{
			nop, {Kind: api.BSubmit, A: s.draw(8)}, {Kind: api.BAfter, A: s.draw(8), B: s.draw(4)},
			{Kind: api.BCancel, A: 1 + s.draw(90)}, panics,
		}[s.draw(5)])
	}
	return l
}

// conf is a drawn one of two threads or more.
func (s *source) conf() api.Conf {
	return api.Conf{Threads: 2 + s.draw(7), K: s.draw(17) / (1 + s.draw(9)), Credits: 1 + s.draw(64)}
}

// let does something at the core that no worker does.
func (s *source) let(c *core.Core) {
	by, prio, l, n := s.draw(c.Conf().Threads), s.draw(8), s.ops(), uint64(s.draw(5))
	id := 1 + s.draw(last(c)+1)
	switch s.draw(10) {
	case 0:
		c.Cancel(id)
	case 1:
		c.Advance(by, n)
	case 2:
		c.Every(by, prio, l, n, 1+n)
	case 3:
		c.After(by, prio, l, n)
	case 4, 5:
		c.Submit(by, prio, l, []int{id})
	case 6:
		if s.draw(90) == 0 {
			c.Shutdown()
		}
	default:
		c.Submit(by, prio, l, nil)
	}
}

// season is a long drawn row of calls and picks of a machine; it is asked behind each.
func season(t *testing.T, s *source, ask func(m *exec.Machine)) *exec.Machine {
	t.Helper()
	m := made(t, s.conf())
	for range 400 {
		if s.draw(4) == 0 {
			s.let(m.Core())
		} else {
			m.Pick(s.word(), s.word())
		}
		ask(m)
	}
	return m
}

// W1 to W6: whatever workers do, at each moment all that a machine tells of itself fits together; what is not over is left.
func TestDrawnMachinesFit(t *testing.T) {
	s := source(6174)
	for range 40 {
		season(t, &s, func(m *exec.Machine) {
			if fault := drain.Check(m); fault != api.OK {
				t.Fatalf("Check %d of\n%s", fault, picture(m))
			}
			if left := drain.Left(m); !slices.Equal(left, plainLeft(m)) || len(left) != m.Core().Conf().Credits-m.Core().State().Free {
				t.Fatalf("Left %v of\n%s", left, picture(m))
			}
		})
	}
}

// W8, 23.2: behind a Close all is over, all credits are free, and nothing is left anywhere, whatever was done at the machine ahead of it; and that is so within Phi picks.
func TestItEndsWell(t *testing.T) {
	s := source(42)
	ended := api.End{}
	for range 200 {
		m := season(t, &s, func(*exec.Machine) {})
		end, ok := drain.Close(m, s.word())
		if !ok {
			t.Fatalf("not closed: %s", picture(m))
		}
		nothingLeft(t, m)
		c := m.Core()
		if picks, phi := end.Rounds*c.Conf().Threads, bound.Phi(c.Conf().Threads, last(c), api.MaxOps); picks > phi {
			t.Fatalf("%d picks, Phi is %d", picks, phi)
		}
		told(t, m, end)
		ended.Done, ended.Failed, ended.Cancelled = ended.Done+end.Done, ended.Failed+end.Failed, ended.Cancelled+end.Cancelled
		ended.Gone, ended.Rounds = append(ended.Gone, end.Gone...), ended.Rounds+end.Rounds
	}
	if ended.Done < 1000 || ended.Failed < 1000 || ended.Cancelled < 1000 || len(ended.Gone) < 200 || ended.Rounds < 2000 {
		t.Errorf("%d, %d, %d, %d, %d: too few to tell", ended.Done, ended.Failed, ended.Cancelled, len(ended.Gone), ended.Rounds)
	}
}

// told holds an End against the events: how often each end is told, and what was cancelled at once behind the close.
func told(t *testing.T, m *exec.Machine, end api.End) {
	t.Helper()
	l := m.Core().Events()
	ends := map[int]int{}
	for _, e := range l {
		ends[e.Kind]++
	}
	hold(t, "ends", fmt.Sprint(end.Done, end.Failed, end.Cancelled), fmt.Sprint(ends[api.EDone], ends[api.EFail], ends[api.ECancel]))
	hold(t, "all", end.Done+end.Failed+end.Cancelled, last(m.Core()))
	hold(t, "closes", ends[api.EClose], 1)
	at := slices.IndexFunc(l, func(e api.Event) bool { return e.Kind == api.EClose })
	for _, e := range l[at+1:][:len(end.Gone)] {
		if _, ok := slices.BinarySearch(end.Gone, e.ID); !ok || e.Kind != api.ECancel {
			t.Fatalf("%v are gone, but %+v", end.Gone, e)
		}
	}
	hold(t, "Ok", hist.Ok(m.Core().Conf(), l), api.OK)
}

// W8: as many tasks as may be, of as many ops as may be, all waiting for one another or for a tick: they are over, too.
func TestAllThatMayBe(t *testing.T) {
	for threads := 1; threads <= api.MaxThreads; threads++ {
		m := made(t, api.Conf{Threads: threads, K: threads % 3, Credits: api.MaxCredits})
		ops := slices.Repeat([]api.Op{nop}, api.MaxOps)
		for n := range api.MaxCredits {
			if n%8 == 7 {
				m.Core().After(n%threads, 0, nil, uint64(n))
			} else {
				m.Core().Submit(n%threads, n%8, ops, []int{n}[:min(n%8, 1)])
			}
		}
		for last(m.Core()) < api.MaxTasks {
			m.Round(7)
			m.Core().Submit(0, 7, ops, nil)
		}
		end, ok := drain.Close(m, 3)
		hold(t, "ok", ok, true)
		nothingLeft(t, m)
		told(t, m, end)
		hold(t, "Gone", len(end.Gone), 8)
	}
}
