package core_test

import (
	"slices"
	"testing"

	"verger/api"
	"verger/core"
)

// hand is a worker of a row: it settles, looks, claims what it looked at, and ends it.
type hand struct {
	e       api.Entry
	claimed bool
	looked  bool
}

// step lets the worker by do one thing.
func (h *hand) step(c *core.Core, by int, s *source) {
	switch {
	case h.claimed:
		c.Finish(by, h.e.ID, s.draw(8) > 0)
		*h = hand{}
	case h.looked:
		h.claimed = c.Claim(by, h.e) == api.OK
		h.looked = false
	case !c.Settle(by):
		h.e, h.looked = c.Look(by, uint64(s.draw(1000)))
	}
}

// let lets a task in, in one of the ways that there are, and notes what it must wait for.
func let(c *core.Core, s *source, preds map[int][]int) {
	by, prio := s.draw(c.Conf().Threads), s.draw(8)
	switch s.draw(8) {
	case 0:
		c.After(by, prio, nil, uint64(s.draw(9)))
	case 1:
		c.Every(by, prio, nil, uint64(s.draw(9)), 1+uint64(s.draw(5)))
	case 2, 3:
		var l []int
		for range 1 + s.draw(3) {
			l = append(l, 1+s.draw(max(1, len(c.State().Tasks))))
		}
		if id, e := c.Submit(by, prio, nil, l); e == api.OK {
			preds[id] = l
		}
	default:
		c.Submit(by, prio, nil, nil)
	}
}

// season is a long row of workers that step as a draw says, while tasks are let in, cancelled, and time goes on. It answers the core, and what each task had to wait for.
func season(t *testing.T, s *source, each func(c *core.Core)) (*core.Core, map[int][]int) {
	t.Helper()
	conf := api.Conf{Threads: 1 + s.draw(8), K: s.draw(17), Credits: 1 + s.draw(64)}
	if s.draw(2) == 0 {
		conf = api.Conf{Threads: 1 + s.draw(3), K: s.draw(3), Credits: 10 + s.draw(50)}
	}
	c := made(t, conf)
	hands := make([]hand, conf.Threads)
	preds := map[int][]int{}
	lazy := s.draw(conf.Threads + 3)
	for range 1500 {
		switch n := s.draw(40); {
		case n < 8:
			let(c, s, preds)
		case n == 8:
			c.Cancel(1 + s.draw(len(c.State().Tasks)+1))
		case n < 12:
			c.Advance(s.draw(conf.Threads), uint64(s.draw(4)))
		default:
			by := s.draw(conf.Threads)
			if by != lazy || n == 39 {
				hands[by].step(c, by, s)
			}
		}
		each(c)
	}
	return c, preds
}

// life has of one task what its events were so far.
type life struct {
	state int
	key   uint64
	at    int
}

// lives goes along a row of events; look is asked behind each, with what is known of all tasks ahead of it.
func lives(l []api.Event, look func(i int, e api.Event, all map[int]life)) {
	all := map[int]life{}
	next := map[int]int{
		api.EMake: api.SWaiting, api.ERelease: api.SReady, api.EClaim: api.SClaimed, api.EDone: api.SDone,
		api.EFail: api.SFailed, api.EAgain: api.SWaiting, api.ECancel: api.SCancelled,
	}
	for i, e := range l {
		look(i, e, all)
		if state, ok := next[e.Kind]; ok {
			x := life{state: state, key: all[e.ID].key, at: i}
			if e.Kind == api.ERelease {
				x.key = e.Key
			}
			all[e.ID] = x
		}
	}
}

// W2, W3, 18.5: what is told is a row that may be: each event follows from those ahead of it, tickets count the claims, and time never falls.
func TestEventsAreOneRow(t *testing.T) {
	s := source(1234567)
	for range 25 {
		c, preds := season(t, &s, func(*core.Core) {})
		c.Shutdown()
		tasks := c.State().Tasks
		claims, now, made := uint64(0), uint64(0), 0
		done := map[int]int{}
		lives(c.Events(), func(i int, e api.Event, all map[int]life) {
			was, known := all[e.ID]
			right := e.Ticket == claims && e.Now >= now
			now = e.Now
			switch e.Kind {
			case api.EMake:
				made++
				right = right && e.T == -1 && e.ID == made && e.Key == 0
			case api.ERelease:
				right = right && known && was.state == api.SWaiting && e.Key >= e.Ticket
				for _, pred := range preds[e.ID] {
					right = right && done[pred] > 0
				}
			case api.EClaim:
				right = right && was.state == api.SReady && e.Key == was.key
				claims++
			case api.EDone:
				done[e.ID]++
				right = right && was.state == api.SClaimed && e.Key == 0
			case api.EFail, api.EAgain:
				right = right && was.state == api.SClaimed && e.Key == 0
			case api.ECancel:
				right = right && (was.state == api.SWaiting || was.state == api.SReady) && e.T == -1 && e.Key == 0
			case api.ELook:
				right = right && was.state == api.SReady && e.Key == was.key
			case api.ETick:
				right = right && e.ID == 0 && e.Key == 0
			default:
				right = right && e.Kind == api.EClose && e.T == -1 && e.ID == 0
			}
			if !right {
				t.Fatalf("event %d: %+v", i, e)
			}
		})
		if made != len(tasks) || claims != c.State().Ticket || now != c.State().Now {
			t.Fatalf("%d made, %d claims, tick %d: %+v", made, claims, now, c.State())
		}
	}
}

// W2: nothing is claimed ahead of its due tick.
func TestNothingAheadOfItsTick(t *testing.T) {
	s := source(99)
	for range 10 {
		seen := 0
		season(t, &s, func(c *core.Core) {
			state := c.State()
			for _, e := range c.Events()[seen:] {
				if (e.Kind == api.EClaim || e.Kind == api.ERelease) && state.Tasks[e.ID-1].Due > e.Now {
					t.Fatalf("%+v of %+v", e, state.Tasks[e.ID-1])
				}
			}
			seen = len(c.Events())
		})
	}
}

// W6, 18.2 to 18.4: behind each call a credit is out for each task that is not over, the queue has the ready ones by their Keys, each once, and each timer is of a waiting one at its Due.
func TestEachStandsInOnePlace(t *testing.T) {
	s := source(4711)
	for range 10 {
		season(t, &s, func(c *core.Core) {
			creditsHold(t, c)
			state := c.State()
			var ready []api.Entry
			for _, x := range state.Tasks {
				if x.State == api.SReady {
					ready = append(ready, api.Entry{Key: x.Key, ID: x.ID})
				}
			}
			queued := slices.Concat(state.Slots, slices.Concat(state.Local...), state.Shared)
			slices.SortFunc(queued, before)
			slices.SortFunc(ready, before)
			if !slices.Equal(queued, ready) {
				t.Fatalf("the queue has %v, ready are %v", queued, ready)
			}
			for _, x := range state.Timers {
				if task := state.Tasks[x.ID-1]; task.State != api.SWaiting || task.Due != x.Due {
					t.Fatalf("%v of %+v", x, task)
				}
			}
		})
	}
}

// passed is how many lesser ones than the claimed were ready when its worker looked, and are still.
func passed(l []api.Event, at int) int {
	claim := l[at]
	look := at - 1
	for l[look].T != claim.T || l[look].Kind != api.ELook {
		look--
	}
	n := 0
	lives(l[:at+1], func(i int, e api.Event, all map[int]life) {
		if i != at {
			return
		}
		for id, x := range all {
			if x.state == api.SReady && x.at < look && before(api.Entry{Key: x.key, ID: id}, api.Entry{Key: claim.Key, ID: claim.ID}) < 0 {
				n++
			}
		}
	})
	return n
}

// W4, 18.3: what workers claim passes over no more lesser ones than Rho, which is (threads + 1) k + threads.
func TestNotFarFromOrder(t *testing.T) {
	s := source(31337)
	for range 12 {
		c, _ := season(t, &s, func(*core.Core) {})
		conf, l := c.Conf(), c.Events()
		rho := (conf.Threads+1)*conf.K + conf.Threads
		for at, e := range l {
			if e.Kind != api.EClaim {
				continue
			}
			if n := passed(l, at); n > rho {
				t.Fatalf("%v: %+v passes over %d, Rho is %d", conf, e, n, rho)
			}
		}
	}
}

// waited is how many that were released behind l[at] are claimed ahead of it.
func waited(l []api.Event, at int) int {
	n := 0
	fresh := map[int]int{}
	for _, e := range l[at+1:] {
		switch {
		case e.Kind == api.ELook:
		case e.ID == l[at].ID:
			return n
		case e.Kind == api.ERelease:
			fresh[e.ID] = 1
		case e.Kind == api.EClaim:
			n += fresh[e.ID]
		}
	}
	return n
}

// W5, 18.2, 18.3: of what is released behind a task, at most Beta are claimed ahead of it: its slack, the credits and twice the threads.
func TestNotPassedOver(t *testing.T) {
	s := source(271828)
	for range 25 {
		c, _ := season(t, &s, func(*core.Core) {})
		conf, l := c.Conf(), c.Events()
		for at, e := range l {
			if e.Kind != api.ERelease {
				continue
			}
			beta := int(e.Key-e.Ticket) + conf.Credits + 2*conf.Threads
			if n := waited(l, at); n > beta {
				t.Fatalf("%v: %+v waits for %d, Beta is %d", conf, e, n, beta)
			}
		}
	}
}
