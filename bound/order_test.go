package bound_test

import (
	"fmt"
	"slices"
	"testing"

	"verger/age"
	"verger/api"
	"verger/bound"
	"verger/core"
	"verger/exec"
	"verger/hist"
)

// ops is a drawn body.
func (s *source) ops() []api.Op {
	var l []api.Op
	for range s.draw(6) * s.draw(3) {
		l = append(l, []api.Op{
			{Kind: api.BNop}, {Kind: api.BSubmit, A: s.draw(8)}, {Kind: api.BAfter, A: s.draw(8), B: s.draw(4)},
			{Kind: api.BCancel, A: 1 + s.draw(90)}, {Kind: api.BPanic},
		}[s.draw(5)])
	}
	return l
}

// conf is a drawn one.
func (s *source) conf() api.Conf {
	return api.Conf{Threads: 1 + s.draw(8), K: s.draw(17) / (1 + s.draw(9)), Credits: 1 + s.draw(64)}
}

// let does something at the core that no worker does.
func (s *source) let(c *core.Core) {
	by, prio, l, n := s.draw(c.Conf().Threads), s.draw(8), s.ops(), uint64(s.draw(5))
	id := 1 + s.draw(len(c.State().Tasks)+1)
	switch s.draw(10) {
	case 0:
		c.Cancel(id)
	case 1, 2:
		c.Advance(by, n)
	case 3:
		c.Every(by, prio, l, n, 1+n)
	case 4:
		c.After(by, prio, l, n)
	case 5:
		c.Submit(by, prio, l, []int{id})
	case 6:
		if s.draw(90) == 0 {
			c.Shutdown()
		}
	default:
		c.Submit(by, prio, l, nil)
	}
}

// season is a long drawn row of calls and picks of a machine, of whose workers one may be slower than the others; ask is asked now and then.
func season(t *testing.T, s *source, ask func(m *exec.Machine)) *exec.Machine {
	t.Helper()
	m, fault := exec.New(s.conf())
	if fault != api.OK {
		t.Fatal(fault)
	}
	slow := s.draw(m.Core().Conf().Threads + 3)
	for n := range 900 {
		by := s.draw(m.Core().Conf().Threads)
		switch {
		case s.draw(6) == 0:
			s.let(m.Core())
		case by != slow || s.draw(20) == 0:
			m.Pick(uint64(by), s.word())
		}
		if n%60 == 0 {
			ask(m)
		}
	}
	return m
}

// prioOf is what a core's tasks were let in with.
func prioOf(c *core.Core) func(int) int {
	tasks := c.State().Tasks
	return func(id int) int { return tasks[id-1].Prio }
}

// inOrder holds what a machine has told so far against W4 and W5.
func inOrder(t *testing.T, m *exec.Machine) {
	t.Helper()
	c := m.Core()
	conf, l := c.Conf(), c.Events()
	if rho := bound.Rho(l); rho > age.Rho(conf.Threads, conf.K) {
		t.Fatalf("%+v: %d are passed over, of\n%s", conf, rho, hist.Text(l))
	}
	if !bound.Beta(conf, l, prioOf(c)) || !bound.Beta(conf, l, nil) {
		t.Fatalf("%+v: too many go ahead of one, of\n%s", conf, hist.Text(l))
	}
}

// W4, W5, 22.4: of what an executor tells no claim passes over more than Rho, and no release waits for more than Beta, at any moment and at the end; that some are passed over and wait is held, too.
func TestExecutorsAreInOrder(t *testing.T) {
	s, far, late := source(20261119), 0, 0
	for range 80 {
		m := season(t, &s, func(m *exec.Machine) { inOrder(t, m) })
		inOrder(t, m)
		m.Core().Shutdown()
		m.Rest(1000, s.word())
		inOrder(t, m)
		l := m.Core().Events()
		far, late = max(far, bound.Rho(l)), max(late, slices.Max(each(bound.Waited, l)))
	}
	if far < 5 || late < 20 {
		t.Errorf("at most %d are passed over, %d go ahead of one, too few to tell", far, late)
	}
}

// W3, 22.1 to 22.3: what an executor tells is told as the chapter says; each claim has a look of its own, each ready one a Waited.
func TestExecutorsAreTold(t *testing.T) {
	s := source(7)
	for range 12 {
		m := season(t, &s, func(*exec.Machine) {})
		l := m.Core().Events()
		alike(t, l)
		for at, e := range l {
			if passed, waited := bound.Passed(l, at), bound.Waited(l, at); (passed >= 0) != (e.Kind == api.EClaim) || (waited >= 0) != (e.Kind == api.ERelease) {
				t.Fatalf("Passed %d, Waited %d, at %d of\n%s", passed, waited, at, hist.Text(l))
			}
		}
	}
}

// machine has two threads; 1 to 4 stand in the shared list by 7, and 5 in thread 0's own one.
func machine(t *testing.T) *exec.Machine {
	t.Helper()
	m, fault := exec.New(api.Conf{Threads: 2, K: 1, Credits: 9})
	if fault != api.OK {
		t.Fatal(fault)
	}
	for range 5 {
		m.Core().Submit(0, 3, nil, nil)
	}
	m.Pick(0, 0)
	return m
}

// W4, 22.1: a worker passes over what was ready as it looked, in whatever list, and still is; not what came since, nor what is gone.
func TestSlowWorker(t *testing.T) {
	for _, x := range []struct {
		since func(c *core.Core)
		want  int
	}{
		{func(c *core.Core) {}, 2},
		{func(c *core.Core) { c.Submit(0, 0, nil, nil) }, 2},
		{func(c *core.Core) { c.Look(0, 0) }, 2},
		{func(c *core.Core) { c.Advance(0, 5) }, 2},
		{func(c *core.Core) { c.Shutdown() }, 2},
		{func(c *core.Core) { c.Cancel(1) }, 1},
		{func(c *core.Core) { c.Cancel(5) }, 2},
		{func(c *core.Core) { c.Claim(0, api.Entry{Key: 1, ID: 6}) }, 1},
		{func(c *core.Core) { c.Cancel(1); c.Cancel(6) }, 0},
		{func(c *core.Core) { c.Look(1, 0) }, -1},
		{func(c *core.Core) { c.Cancel(2) }, -1},
	} {
		m := machine(t)
		m.Core().Submit(0, 1, nil, nil) // 1:6, which thread 1 does not see
		m.Pick(1, 1)
		w, _ := m.Worker(1)
		hold(t, "what is found", w.E, api.Entry{Key: 7, ID: 2})
		x.since(m.Core())
		m.Pick(1, 1)
		l := m.Core().Events()
		hold(t, "Passed", bound.Passed(l, len(l)-1), x.want)
		inOrder(t, m)
	}
}

// W5, 22.2, 22.3: urgent ones go ahead of one that is not: as many as its slack, and one that was ready by a lesser Key as it became overdue. That is no more than its urgency allows, but more than a greater one would.
func TestUrgentOnesGoAhead(t *testing.T) {
	m, _ := exec.New(api.Conf{Threads: 1, K: 0, Credits: 3})
	c := m.Core()
	c.Submit(0, 5, nil, nil)
	for c.Status(1) == api.SReady {
		c.Submit(0, 0, nil, nil)
		m.Pick(0, 0)
		inOrder(t, m)
	}
	l := c.Events()
	hold(t, "Waited", bound.Waited(l, 1), 32)
	hold(t, "Behind", bound.Behind(l), 32)
	alike(t, l)
	for prio := range 8 {
		urgency := func(int) int { return prio }
		hold(t, fmt.Sprintf("Beta of %d", prio), bound.Beta(c.Conf(), l, urgency), prio >= 5)
	}
}

// W7, 22.3: where every worker steps in each round, all is over within Phi picks.
func TestWithinPhi(t *testing.T) {
	s := source(13)
	for n := range 60 {
		m := season(t, &s, func(*exec.Machine) {})
		c := m.Core()
		for range 20 {
			s.let(c)
		}
		if n%2 > 0 {
			c.Shutdown()
		}
		ahead := m.Picks()
		if _, ok := m.Rest(100_000, s.word()); !ok {
			t.Fatalf("%+v: not quiet", c.Conf())
		}
		longest := 0
		for _, x := range c.State().Tasks {
			longest = max(longest, len(c.Body(x.ID)))
		}
		if picks, phi := m.Picks()-ahead, bound.Phi(c.Conf().Threads, len(c.State().Tasks), longest); picks > phi {
			t.Fatalf("%+v: %d picks, Phi is %d", c.Conf(), picks, phi)
		}
	}
}
