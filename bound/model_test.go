package bound_test

import (
	"math"
	"slices"
	"testing"

	"verger/api"
	"verger/bound"
	"verger/hist"
)

// next is where the next event of an ID stands, looks, ticks and closes left out, or the end.
func next(l []api.Event, from, id int) int {
	for from < len(l) && (l[from].ID != id || slices.Contains(apart, l[from].Kind)) {
		from++
	}
	return from
}

// lastOf is where the last of the events stands of which ask is true, or -1.
func lastOf(l []api.Event, ask func(e api.Event) bool) int {
	at := len(l) - 1
	for at >= 0 && !ask(l[at]) {
		at--
	}
	return at
}

func isLess(a, b api.Entry) bool {
	return a.Key < b.Key || a.Key == b.Key && a.ID < b.ID
}

// plainPassed asks hist what was ready at the look, and what is ready at the claim.
func plainPassed(l []api.Event, at int) int {
	if at < 0 || at >= len(l) || l[at].Kind != api.EClaim {
		return -1
	}
	seen := lastOf(l[:at], func(e api.Event) bool { return e.Kind == api.ELook && e.T == l[at].T })
	if seen < 0 || l[seen].ID != l[at].ID {
		return -1
	}
	n := 0
	for _, e := range hist.Ready(l, at) {
		if isLess(e, api.Entry{Key: l[at].Key, ID: l[at].ID}) && slices.Contains(hist.Ready(l, seen), e) && next(l[:at], seen, e.ID) == at {
			n++
		}
	}
	return n
}

func plainRho(l []api.Event) int {
	n := 0
	for at := range l {
		n = max(n, plainPassed(l, at))
	}
	return n
}

func plainWaited(l []api.Event, at int) int {
	if at < 0 || at >= len(l) || l[at].Kind != api.ERelease {
		return -1
	}
	n := 0
	for i := at + 1; i < next(l, at+1, l[at].ID); i++ {
		own := lastOf(l[:i], func(e api.Event) bool { return e.Kind == api.ERelease && e.ID == l[i].ID })
		if l[i].Kind == api.EClaim && own > at {
			n++
		}
	}
	return n
}

// counted is a number as age takes it.
func counted(n int) int {
	return max(0, min(n, 1000))
}

func plainBeta(c api.Conf, l []api.Event, prio func(int) int) bool {
	slack := []int{0, 1, 3, 7, 15, 31, 63, 127}
	for at, e := range l {
		if waited := plainWaited(l, at); waited > slack[max(0, min(prio(e.ID), 7))]+counted(c.Credits)+2*counted(c.Threads) {
			return false
		}
	}
	return true
}

func plainBehind(l []api.Event) int {
	most := 0
	for at, e := range l {
		end := next(l, at+1, e.ID)
		if e.Kind != api.ERelease || end == len(l) || l[end].Kind != api.EClaim {
			continue
		}
		most = max(most, len(hist.Claims(l[at:end])))
	}
	return most
}

// alike holds all calls of a row against the chapter's sentences.
func alike(t *testing.T, l []api.Event) {
	t.Helper()
	for at := -1; at <= len(l); at++ {
		if got, want := bound.Passed(l, at), plainPassed(l, at); got != want {
			t.Fatalf("Passed at %d = %d, want %d, of\n%s", at, got, want, hist.Text(l))
		}
		if got, want := bound.Waited(l, at), plainWaited(l, at); got != want {
			t.Fatalf("Waited at %d = %d, want %d, of\n%s", at, got, want, hist.Text(l))
		}
	}
	if got, want := bound.Rho(l), plainRho(l); got != want {
		t.Fatalf("Rho = %d, want %d, of\n%s", got, want, hist.Text(l))
	}
	if got, want := bound.Behind(l), plainBehind(l); got != want {
		t.Fatalf("Behind = %d, want %d, of\n%s", got, want, hist.Text(l))
	}
	for n := range 9 {
		c, prio := api.Conf{Threads: n % 2, Credits: n / 2 % 3}, func(id int) int { return (id + n) % 4 }
		if got, want := bound.Beta(c, l, prio), plainBeta(c, l, prio); got != want {
			t.Fatalf("Beta of %+v = %t, want %t, of\n%s", c, got, want, hist.Text(l))
		}
	}
	if got, want := bound.Beta(api.Conf{}, l, nil), plainBeta(api.Conf{}, l, func(int) int { return 7 }); got != want {
		t.Fatalf("Beta of nil = %t, want %t, of\n%s", got, want, hist.Text(l))
	}
}

// steps are events of two tasks and two threads, of all kinds.
var steps = []api.Event{
	release(1, 1), release(2, 1), release(1, 2), release(2, 2),
	look(0, 1), look(0, 2), look(1, 1), look(1, 2),
	claim(0, 1, 1), claim(0, 2, 2), claim(1, 2, 1), claim(1, 1, 2),
	event(api.ECancel, 1), event(api.EAgain, 2), event(api.EMake, 1), event(api.ETick, 1), event(api.EClose, 2), event(0, 2),
}

// 22.1 to 22.3: every row of four steps is told as the chapter says, and so is every claim behind it.
func TestEveryShortRow(t *testing.T) {
	base := len(steps)
	for n := range base * base * base * base {
		var l []api.Event
		for rest := n; len(l) < 4; rest /= base {
			l = append(l, steps[rest%base])
		}
		if got, want := bound.Behind(l), plainBehind(l); got != want {
			t.Fatalf("Behind = %d, want %d, of\n%s", got, want, hist.Text(l))
		}
		if got, want := bound.Waited(l, 0), plainWaited(l, 0); got != want {
			t.Fatalf("Waited = %d, want %d, of\n%s", got, want, hist.Text(l))
		}
		for _, e := range steps[8:12] {
			whole := append(l[:4:4], e)
			if got, want := bound.Passed(whole, 4), plainPassed(whole, 4); got != want {
				t.Fatalf("Passed = %d, want %d, of\n%s", got, want, hist.Text(whole))
			}
		}
	}
}

// source is a row of numbers that looks drawn.
type source uint64

func (s *source) word() uint64 {
	*s ^= *s << 13
	*s ^= *s >> 7
	*s ^= *s << 17
	return uint64(*s)
}

func (s *source) draw(n int) int {
	return int(s.word() >> 11 % uint64(n))
}

// wild is an event of drawn small numbers; most are such as are measured.
func (s *source) wild() api.Event {
	kind := s.draw(14) - 1
	if s.draw(4) > 0 {
		kind = []int{api.ERelease, api.ERelease, api.EClaim, api.ELook}[s.draw(4)]
	}
	return api.Event{Kind: kind, T: s.draw(3) - 1, ID: s.draw(7) - 1, Key: uint64(s.draw(4)), Ticket: uint64(s.draw(3)), Now: uint64(s.draw(3))}
}

// 22.1 to 22.4: rows of any numbers are told as the chapter says.
func TestWildRows(t *testing.T) {
	s, far, late := source(2022), 0, 0
	for range 2000 {
		var l []api.Event
		for range s.draw(40) {
			l = append(l, s.wild())
		}
		alike(t, l)
		far, late = max(far, bound.Rho(l)), max(late, bound.Behind(l))
	}
	if far < 3 || late < 5 {
		t.Errorf("at most %d are passed over, %d come between, too few to tell", far, late)
	}
}

// again is a look at a ready task, its claim, and its release by the same key.
func again(l []api.Event, key uint64, id int) []api.Event {
	return append(l, look(0, id), claim(0, key, id), event(api.EAgain, id), release(key, id))
}

// 22.4: long rows of as many tasks as may be are told, whether all of them go round or the last one alone.
func TestLongRows(t *testing.T) {
	var round []api.Event
	for id := range api.MaxTasks {
		round = append(round, release(uint64(id), id))
	}
	lone := slices.Clone(round)
	for n := range 50_000 {
		round = again(round, uint64(n%api.MaxTasks), n%api.MaxTasks)
		lone = again(lone, api.MaxTasks-1, api.MaxTasks-1)
	}
	lone = append(lone, claim(0, 0, 0))
	hold(t, "Rho of all", bound.Rho(round), 199)
	hold(t, "Behind of all", bound.Behind(round), 199)
	hold(t, "Beta of all", bound.Beta(api.Conf{}, round, func(int) int { return 0 }), true)
	hold(t, "Rho of one", bound.Rho(lone), 199)
	hold(t, "Behind of one", bound.Behind(lone), 50_000)
	hold(t, "Waited of one", bound.Waited(lone, 0), 50_000)
	hold(t, "Beta of one", bound.Beta(api.Conf{}, lone, nil), false)
}

// 22.4: any bytes as events are answered, and as the chapter says.
func FuzzEvents(f *testing.F) {
	f.Add([]byte("how far from order"), 1, 2, 3)
	f.Add([]byte{2, 1, 9, 0, 2, 2, 5, 0, 10, 1, 0, 0, 3, 1, 9, 0, 3, 2, 5, 0}, -1, math.MaxInt, math.MinInt)
	f.Fuzz(func(t *testing.T, b []byte, threads, tasks, ops int) {
		var l []api.Event
		for ; len(b) >= 4 && len(l) < 60; b = b[4:] {
			l = append(l, api.Event{Kind: int(int8(b[0])), T: int(int8(b[3])), ID: int(int8(b[1])), Key: uint64(b[2])})
		}
		alike(t, l)
		if got, want := bound.Phi(threads, tasks, ops), counted(threads)*(counted(tasks)*(counted(ops)+5)+5); got != want {
			t.Errorf("Phi(%d, %d, %d) = %d, want %d", threads, tasks, ops, got, want)
		}
	})
}
