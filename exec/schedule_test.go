package exec_test

import (
	"fmt"
	"math"
	"slices"
	"testing"

	"verger/api"
	"verger/core"
	"verger/exec"
	"verger/work"
)

// plain is a machine as the chapter tells it, sentence by sentence: a core, workers, and a list of all that was done.
type plain struct {
	c     *core.Core
	hands []api.Worker
	list  []int
}

func (p *plain) pick(pick, draw uint64) int {
	by := 0
	for uint64(by) != pick%uint64(len(p.hands)) {
		by++
	}
	w, did := work.Step(p.c, p.hands[by], by, draw)
	p.hands[by] = w
	p.list = append(p.list, did)
	return did
}

func (p *plain) round(draw uint64) []int {
	var l []int
	for by := range p.hands {
		l = append(l, p.pick(uint64(by), draw))
	}
	return l
}

// quiet asks tasks, not places: what is in the queue is what is ready.
func (p *plain) quiet() bool {
	busy := slices.ContainsFunc(p.hands, func(w api.Worker) bool { return w.Phase != api.PIdle })
	return !busy && len(inState(p.c, api.SReady)) == 0
}

func (p *plain) rest(most int, draw uint64) (int, bool) {
	n := 0
	for n < most && n < 100_000 && !p.quiet() {
		p.round(draw)
		n++
	}
	return n, p.quiet()
}

func (p *plain) did() []int {
	l := make([]int, 7)
	for _, kind := range p.list {
		l[kind]++
	}
	return l
}

func (p *plain) picture() string {
	s := fmt.Sprintf("%+v\n%+v\n%t %d %v %t", p.c.State(), p.c.Events(), p.c.Drained(), len(p.list), p.did(), p.quiet())
	for _, w := range p.hands {
		s += fmt.Sprintf(" %+v", w)
	}
	return s
}

// inState is which tasks have that state, as entries.
func inState(c *core.Core, state int) []api.Entry {
	var l []api.Entry
	for _, x := range c.State().Tasks {
		if x.State == state {
			l = append(l, api.Entry{Key: x.Key, ID: x.ID})
		}
	}
	return l
}

// pair is a machine, and its twin that goes by plain.
type pair struct {
	m *exec.Machine
	p *plain
}

// twins makes a pair; begin is done to both cores.
func twins(t *testing.T, conf api.Conf, begin func(c *core.Core)) *pair {
	t.Helper()
	c, _ := core.New(conf)
	x := &pair{m: made(t, conf), p: &plain{c: c, hands: make([]api.Worker, conf.Threads)}}
	x.both(begin)
	return x
}

func (x *pair) both(do func(c *core.Core)) {
	do(x.m.Core())
	do(x.p.c)
}

// same fails where a machine's answer is not its twin's.
func same(t *testing.T, what string, got, want any) {
	t.Helper()
	if g, w := fmt.Sprint(got), fmt.Sprint(want); g != w {
		t.Fatalf("%s: %s, want %s", what, g, w)
	}
}

func (x *pair) pick(t *testing.T, pick, draw uint64) {
	t.Helper()
	same(t, "Pick", x.m.Pick(pick, draw), x.p.pick(pick, draw))
}

func (x *pair) round(t *testing.T, draw uint64) {
	t.Helper()
	same(t, "Round", x.m.Round(draw), x.p.round(draw))
}

func (x *pair) rest(t *testing.T, most int, draw uint64) {
	t.Helper()
	n, ok := x.m.Rest(most, draw)
	want, quiet := x.p.rest(most, draw)
	same(t, fmt.Sprintf("Rest(%d)", most), fmt.Sprint(n, ok), fmt.Sprint(want, quiet))
}

// alike holds the machine against its twin.
func (x *pair) alike(t *testing.T) {
	t.Helper()
	same(t, "the machine", picture(x.m), x.p.picture())
}

// digits is the n-th row of so many numbers below base.
func digits(n, base, depth int) []int {
	row := make([]int, depth)
	for i := range row {
		row[i] = n % base
		n /= base
	}
	return row
}

// scenes are beginnings for two threads.
func scenes() map[string]func(c *core.Core) {
	return map[string]func(c *core.Core){
		"nothing":     func(c *core.Core) {},
		"one for two": func(c *core.Core) { c.Submit(1, 0, []api.Op{{Kind: api.BNop}}, nil) },
		"three": func(c *core.Core) {
			c.Submit(0, 2, nil, nil)
			c.Submit(1, 1, []api.Op{{Kind: api.BSubmit, A: 1}, {Kind: api.BCancel, A: 3}}, nil)
			c.Submit(1, 0, nil, []int{1})
		},
		"a panic, and again": func(c *core.Core) {
			c.Submit(0, 0, []api.Op{{Kind: api.BPanic}}, nil)
			c.Submit(1, 0, nil, []int{1})
			c.Every(1, 0, nil, 0, 2)
		},
	}
}

// W1, W2, 20.1: every schedule of nine picks of two workers, with a cancel and a tick in its midst; then all goes on to its end.
func TestEverySchedule(t *testing.T) {
	for name, begin := range scenes() {
		t.Run(name, func(t *testing.T) {
			for n := range 1 << 9 {
				x := twins(t, api.Conf{Threads: 2, K: n % 2, Credits: 6}, begin)
				for i, by := range digits(n, 2, 9) {
					if i == 5 {
						x.both(func(c *core.Core) { c.Cancel(2); c.Advance(1, 2) })
					}
					x.pick(t, uint64(by+2*i), uint64(i))
				}
				x.alike(t)
				x.rest(t, 1000, 3)
				x.alike(t)
				read(t, x.m.Core().Events())
			}
		})
	}
}

// call does one of nine calls to a pair.
func (x *pair) call(t *testing.T, n int) {
	t.Helper()
	switch n {
	case 0:
		x.pick(t, math.MaxUint64, 1)
	case 1:
		x.pick(t, 2, 2)
	case 2:
		x.round(t, 3)
	case 3:
		x.rest(t, 1, 4)
	case 4:
		x.rest(t, 4, 5)
	case 5:
		x.both(func(c *core.Core) { c.Submit(1, 1, []api.Op{{Kind: api.BAfter, A: 0, B: 1}}, nil) })
	case 6:
		x.both(func(c *core.Core) { c.Every(0, 0, nil, 0, 1) })
	case 7:
		x.both(func(c *core.Core) { c.Advance(0, 1) })
	case 8:
		x.both(meddle)
	}
}

// meddle claims what no worker may claim any more then, and ends what a worker may still run.
func meddle(c *core.Core) {
	for _, e := range inState(c, api.SClaimed) {
		c.Finish(0, e.ID, e.ID%2 == 0)
	}
	for _, e := range inState(c, api.SReady) {
		c.Claim(1, e)
	}
}

// W1, 20.1: every row of four calls out of nine.
func TestEveryRowOfCalls(t *testing.T) {
	for _, conf := range []api.Conf{{Threads: 2, K: 1, Credits: 2}, {Threads: 1, K: 0, Credits: 9}} {
		for n := range 9 * 9 * 9 * 9 {
			x := twins(t, conf, func(c *core.Core) { c.Submit(0, 0, []api.Op{{Kind: api.BSubmit}}, nil) })
			for _, call := range digits(n, 9, 4) {
				x.call(t, call)
			}
			x.alike(t)
		}
	}
}

// source is a row of numbers that looks drawn.
type source uint64

func (s *source) word() uint64 {
	*s ^= *s << 13
	*s ^= *s >> 7
	*s ^= *s << 17
	return uint64(*s)
}

func (s *source) draw(n int) int {
	return int(s.word() >> 11 % uint64(n))
}

// ops is a drawn body.
func (s *source) ops() []api.Op {
	var l []api.Op
	for range s.draw(6) * s.draw(4) {
		l = append(l, []api.Op{
			{Kind: api.BNop}, {Kind: api.BNop}, {Kind: api.BSubmit, A: s.draw(8)}, {Kind: api.BAfter, A: s.draw(8), B: s.draw(4)},
			{Kind: api.BCancel, A: 1 + s.draw(90)}, {Kind: api.BPanic},
		}[s.draw(6)])
	}
	return l
}

// conf is a drawn one.
func (s *source) conf() api.Conf {
	if s.draw(3) == 0 {
		return api.Conf{Threads: 1 + s.draw(8), K: s.draw(17), Credits: 1 + s.draw(64)}
	}
	return api.Conf{Threads: 1 + s.draw(4), K: s.draw(4), Credits: 8 + s.draw(57)}
}

// let does to both cores something that no worker does, and notes what a new task waits for.
func (s *source) let(x *pair, preds map[int][]int) {
	by, prio, l := s.draw(x.m.Core().Conf().Threads), s.draw(8), s.ops()
	id, n := 1+s.draw(len(x.m.Core().State().Tasks)+1), uint64(s.draw(5))
	switch s.draw(8) {
	case 0:
		x.both(func(c *core.Core) { c.Cancel(id) })
	case 1:
		x.both(func(c *core.Core) { c.Advance(by, n) })
	case 2:
		x.both(func(c *core.Core) { c.Every(by, prio, l, n, 3) })
	case 3:
		x.both(func(c *core.Core) { c.After(by, prio, l, n) })
	case 4:
		x.both(func(c *core.Core) {
			if made, e := c.Submit(by, prio, l, []int{id}); e == api.OK {
				preds[made] = []int{id}
			}
		})
	default:
		x.both(func(c *core.Core) { c.Submit(by, prio, l, nil) })
	}
}

// season is a long row of picks, rounds and rests, while tasks are let in and cancelled, and time goes on; each is asked behind every step. One worker may be slower than the others. It answers the machine and its twin, and what each task had to wait for.
func season(t *testing.T, s *source, each func(x *pair)) (*pair, map[int][]int) {
	t.Helper()
	conf := s.conf()
	x := twins(t, conf, func(*core.Core) {})
	preds := map[int][]int{}
	slow := s.draw(conf.Threads + 3)
	for range 600 {
		switch n := s.draw(60); {
		case n < 8:
			s.let(x, preds)
		case n == 8:
			x.round(t, s.word())
		case n == 9:
			x.rest(t, s.draw(6)-1, s.word())
		default:
			pick := s.word()
			if pick%uint64(conf.Threads) != uint64(slow) || n > 55 {
				x.pick(t, pick, s.word())
			}
		}
		each(x)
	}
	return x, preds
}

// W1, 20.1: long rows of calls are answered as the chapter says; behind a Shutdown all comes to its end.
func TestDrawnSchedules(t *testing.T) {
	s := source(20261118)
	for range 40 {
		x, _ := season(t, &s, func(*pair) {})
		x.alike(t)
		x.both(func(c *core.Core) { c.Shutdown() })
		x.rest(t, 100_000, s.word())
		x.alike(t)
		if c := x.m.Core(); !c.Drained() || c.State().Free != c.Conf().Credits || !x.m.Quiet() {
			t.Fatalf("%+v: not drained\n%s", c.Conf(), picture(x.m))
		}
	}
}

// W1, W3: a machine hangs on what it is told alone: the same row of calls is answered the same, and two machines do not know of each other.
func TestPlayedAgain(t *testing.T) {
	var seen []string
	for range 2 {
		s := source(8128)
		for i := range 8 {
			x, _ := season(t, &s, func(*pair) {})
			seen = append(seen, picture(x.m))
			if i+8 < len(seen) {
				same(t, "the machine", seen[i+8], seen[i])
			}
		}
	}
}

// 20.2: any bytes as calls, picks and draws are answered, and as the chapter says.
func FuzzCalls(f *testing.F) {
	f.Add([]byte("let in by their urgency"))
	f.Add([]byte{5, 5, 0, 1, 2, 3, 255, 254, 128, 127, 8, 8, 6, 7, 4})
	f.Fuzz(func(t *testing.T, b []byte) {
		s := source(1)
		x := twins(t, api.Conf{Threads: 3, K: 1, Credits: 8}, func(*core.Core) {})
		for _, y := range b[:min(len(b), 200)] {
			s ^= source(y) << 20
			switch n := int(y) % 12; n {
			case 9:
				s.let(x, map[int][]int{})
			case 10:
				x.rest(t, int(y)-100, s.word())
			case 11:
				x.pick(t, s.word(), s.word())
			default:
				x.call(t, n)
			}
		}
		x.alike(t)
	})
}
