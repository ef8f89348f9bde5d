package bound_test

import (
	"fmt"
	"math"
	"slices"
	"testing"

	"verger/api"
	"verger/bound"
	"verger/hist"
)

// nowhere are places that no row below has.
var nowhere = []int{-1, -2, 9999, 1 << 32, 1<<32 + 1, math.MaxInt, math.MinInt}

// apart are the kinds that tell of no task that something happened to it.
var apart = []int{api.ELook, api.ETick, api.EClose}

// kinds has all of them, and some that are none.
var kinds = []int{
	api.EMake, api.ERelease, api.EClaim, api.EDone, api.EFail, api.EAgain, api.ECancel, api.ETick, api.EClose, api.ELook,
	0, -1, 11, 1<<32 + api.ERelease, 1<<32 + api.EClaim, 1<<32 + api.ELook, math.MaxInt, math.MinInt,
}

func event(kind, id int) api.Event {
	return api.Event{Kind: kind, T: 1, ID: id}
}

func release(key uint64, id int) api.Event {
	return api.Event{Kind: api.ERelease, T: 1, ID: id, Key: key}
}

// look has a Key that nothing was released by: a look is not asked for it.
func look(by, id int) api.Event {
	return api.Event{Kind: api.ELook, T: by, ID: id, Key: 999}
}

func claim(by int, key uint64, id int) api.Event {
	return api.Event{Kind: api.EClaim, T: by, ID: id, Key: key}
}

func hold(t *testing.T, what string, got, want any) {
	t.Helper()
	if g, w := fmt.Sprint(got), fmt.Sprint(want); g != w {
		t.Errorf("%s = %s, want %s", what, g, w)
	}
}

// each is what a call answers at each place of a row.
func each(call func(l []api.Event, at int) int, l []api.Event) []int {
	var out []int
	for at := range l {
		out = append(out, call(l, at))
	}
	return out
}

// tale is a row that may be: four are ready as two threads look, and each claims what it found.
func tale() []api.Event {
	return []api.Event{
		0:  {Kind: api.EMake, T: -1, ID: 1},
		1:  {Kind: api.EMake, T: -1, ID: 2},
		2:  {Kind: api.EMake, T: -1, ID: 3},
		3:  {Kind: api.EMake, T: -1, ID: 4},
		4:  release(5, 1),
		5:  release(3, 2),
		6:  release(5, 3),
		7:  release(7, 4),
		8:  look(0, 4),
		9:  look(1, 3),
		10: claim(0, 7, 4), // passes over 1, 2 and 3
		11: {Kind: api.EAgain, T: 0, ID: 4, Ticket: 1},
		12: {Kind: api.ETick, T: 0, Ticket: 1, Now: 5},
		13: {Kind: api.ERelease, T: 0, ID: 4, Key: 2, Ticket: 1, Now: 5},
		14: {Kind: api.EClaim, T: 1, ID: 3, Key: 5, Ticket: 1, Now: 5}, // passes over 1 and 2; 4 came behind its look
		15: {Kind: api.ELook, T: 0, ID: 1, Key: 5, Ticket: 2, Now: 5},
		16: {Kind: api.ECancel, T: -1, ID: 2, Ticket: 2, Now: 5},
		17: {Kind: api.EClaim, T: 0, ID: 1, Key: 5, Ticket: 2, Now: 5}, // passes over 4; 2 is gone
		18: {Kind: api.EDone, T: 1, ID: 3, Ticket: 3, Now: 5},
		19: {Kind: api.EClose, T: -1, Ticket: 3, Now: 5},
		20: {Kind: api.ELook, T: 1, ID: 4, Key: 2, Ticket: 3, Now: 5},
		21: {Kind: api.EClaim, T: 1, ID: 4, Key: 2, Ticket: 3, Now: 5},
	}
}

// 22.1 to 22.3: what is told of a row that may be.
func TestTale(t *testing.T) {
	hold(t, "Ok", hist.Ok(api.Conf{Threads: 2, Credits: 4}, tale()), api.OK)
	passed := []int{0: -1, 10: 3, 14: 2, 17: 1, 21: 0}
	waited := []int{4: 2, 5: 2, 6: 1, 7: 0, 13: 0, 21: 0}
	for at, e := range tale() {
		if e.Kind != api.EClaim {
			passed[at] = -1
		}
		if e.Kind != api.ERelease {
			waited[at] = -1
		}
	}
	hold(t, "Passed", each(bound.Passed, tale()), passed)
	hold(t, "Waited", each(bound.Waited, tale()), waited)
	for n, want := range map[int]int{0: 0, 10: 0, 11: 3, 22: 3} {
		hold(t, fmt.Sprintf("Rho of the first %d", n), bound.Rho(tale()[:n]), want)
	}
	for n, want := range map[int]int{0: 0, 14: 0, 15: 1, 17: 1, 18: 2, 21: 2, 22: 2} {
		hold(t, fmt.Sprintf("Behind of the first %d", n), bound.Behind(tale()[:n]), want)
	}
	hold(t, "Rho from 11 on", bound.Rho(tale()[11:]), 1)
	hold(t, "Behind from 11 on", bound.Behind(tale()[11:]), 2)
	hold(t, "Behind from 14 on", bound.Behind(tale()[14:]), 0)
}

// 22.1, 22.2: a place that there is not, or that is of another kind, is -1.
func TestNotOfThatKind(t *testing.T) {
	for _, at := range append(nowhere, 22) {
		for _, l := range [][]api.Event{nil, {}, tale()} {
			hold(t, fmt.Sprintf("Passed at %d", at), bound.Passed(l, at), -1)
			hold(t, fmt.Sprintf("Waited at %d", at), bound.Waited(l, at), -1)
		}
	}
	for _, kind := range kinds {
		l := []api.Event{release(1, 1), look(0, 2), {Kind: kind, ID: 2, Key: 5}, claim(0, 1, 1)}
		passed, waited := -1, -1
		switch kind {
		case api.EClaim:
			passed = 1
		case api.ERelease:
			waited = 0
		}
		hold(t, fmt.Sprintf("Passed at kind %d", kind), bound.Passed(l, 2), passed)
		hold(t, fmt.Sprintf("Waited at kind %d", kind), bound.Waited(l, 2), waited)
		hold(t, fmt.Sprintf("Rho of kind %d", kind), bound.Rho(l[:3]), max(passed, 0))
		hold(t, fmt.Sprintf("Behind of kind %d", kind), bound.Behind(l), max(passed, 0))
	}
}

// 22.1, 22.3: of no claim, or none that goes back to a look or a release, they are 0.
func TestOfNone(t *testing.T) {
	for _, l := range [][]api.Event{nil, {}, {event(api.EMake, 1)}, {look(0, 1)}, {release(1, 1)}, {claim(0, 1, 1)}, {release(1, 1), claim(0, 9, 2)}, tale()[:10]} {
		hold(t, fmt.Sprintf("Rho of %v", l), bound.Rho(l), 0)
		hold(t, fmt.Sprintf("Behind of %v", l), bound.Behind(l), 0)
	}
}

// two is a row of what is ready, some events, and a claim of 7:5 by thread 0; three are less than that.
func two(between ...api.Event) []api.Event {
	l := []api.Event{release(7, 4), release(7, 5), release(7, 6), release(6, 9), release(8, 1), release(0, -3)}
	return slices.Concat(l, between, []api.Event{claim(0, 7, 5)})
}

// 22.1: the last look of the claim's thread is the one that counts, and it must have found what is claimed.
func TestLastLook(t *testing.T) {
	for i, x := range []struct {
		between []api.Event
		want    int
	}{
		{nil, -1},
		{[]api.Event{look(0, 5)}, 3},
		{[]api.Event{look(1, 5)}, -1},
		{[]api.Event{look(-1, 5)}, -1},
		{[]api.Event{look(1<<32, 5)}, -1},
		{[]api.Event{look(0, 4)}, -1},
		{[]api.Event{look(0, 0)}, -1},
		{[]api.Event{look(0, 1<<32+5)}, -1},
		{[]api.Event{look(0, 5), look(0, 4)}, -1},
		{[]api.Event{look(0, 4), look(0, 5)}, 3},
		{[]api.Event{look(0, 5), look(1, 4)}, 3},
		{[]api.Event{look(1, 5), look(0, 4)}, -1},
		{[]api.Event{look(0, 5), release(2, 20), look(0, 5)}, 4},
		{[]api.Event{look(0, 5), release(2, 20), look(1, 5)}, 3},
		{[]api.Event{look(0, 5), claim(0, 7, 4)}, 2},
		{[]api.Event{look(0, 5), claim(0, 7, 5)}, 3},
		{[]api.Event{{Kind: api.ETick, ID: 5}}, -1},
	} {
		l := two(x.between...)
		hold(t, fmt.Sprintf("Passed of %d", i), bound.Passed(l, len(l)-1), x.want)
		hold(t, fmt.Sprintf("Passed of %d, and a look behind it", i), bound.Passed(append(l, look(0, 4), look(0, 5)), len(l)-1), x.want)
	}
	for _, by := range []int{0, 1, -1, 8, math.MaxInt, math.MinInt} {
		hold(t, fmt.Sprintf("Passed by %d", by), bound.Passed([]api.Event{release(1, 1), look(by, 2), claim(by, 1, 2)}, 2), 1)
	}
}

// 22.1: Less is by the claim's Key, then by its ID, whatever numbers they are.
func TestLess(t *testing.T) {
	keys := []uint64{0, 1, 6, 7, 8, 1<<32 - 1, 1 << 32, 1<<32 + 7, 1<<63 - 1, 1 << 63, 1<<63 + 7, math.MaxUint64}
	ids := []int{0, 1, -1, 5, 1 << 32, 1<<32 + 5, math.MaxInt, math.MinInt}
	for i, key := range keys {
		for j, other := range keys {
			for _, id := range ids {
				for _, otherID := range ids {
					want := 0
					if j < i || j == i && otherID < id {
						want = 1
					}
					l := []api.Event{release(other, otherID), look(0, id), claim(0, key, id)}
					hold(t, fmt.Sprintf("Passed of %d:%d over %d:%d", key, id, other, otherID), bound.Passed(l, 2), want)
				}
			}
		}
	}
}

// 22.1: what counts was ready at the look, and nothing has happened to it since.
func TestReadySinceTheLook(t *testing.T) {
	for i, x := range []struct {
		l    []api.Event
		want int
	}{
		{[]api.Event{release(1, 1), look(0, 9)}, 1},
		{[]api.Event{look(0, 9), release(1, 1)}, 0},
		{[]api.Event{release(1, 1), release(1, 2), release(1, 3), look(0, 9)}, 3},
		{[]api.Event{release(1, 1), release(1, 2), look(0, 9), release(1, 3)}, 2},
		{[]api.Event{release(1, 1), event(api.ECancel, 1), look(0, 9)}, 0},
		{[]api.Event{release(1, 1), look(0, 9), event(api.ECancel, 1)}, 0},
		{[]api.Event{release(1, 1), look(0, 9), claim(1, 1, 1)}, 0},
		{[]api.Event{release(1, 1), look(0, 9), claim(1, 1, 1), event(api.EAgain, 1), release(1, 1)}, 0},
		{[]api.Event{release(1, 1), claim(1, 1, 1), event(api.EAgain, 1), release(1, 1), look(0, 9)}, 1},
		{[]api.Event{release(1, 1), look(0, 9), release(1, 1)}, 0},
		{[]api.Event{release(1, 1), look(0, 9), release(2, 1)}, 0},
		{[]api.Event{release(9, 1), release(1, 1), look(0, 9)}, 1},
		{[]api.Event{release(1, 1), release(9, 1), look(0, 9)}, 0},
		{[]api.Event{release(1, 1), look(0, 9), look(1, 1), look(2, 1)}, 1},
		{[]api.Event{event(api.EMake, 1), look(0, 9)}, 0},
	} {
		l := append(x.l, claim(0, 5, 9))
		hold(t, fmt.Sprintf("Passed of %d", i), bound.Passed(l, len(l)-1), x.want)
		hold(t, fmt.Sprintf("Rho of %d", i), bound.Rho(l), max(x.want, 0))
	}
}

// 22.1: of all kinds a look alone is nothing that happened since; the ID of a tick or a close is no task's. What is no release takes what is ready away, or leaves it so.
func TestKindsSinceTheLook(t *testing.T) {
	leave := append([]int{api.EMake, api.ERelease}, apart...)
	for _, kind := range kinds {
		ahead, since := 1, 0
		if kind != api.ERelease && slices.Contains(kinds[:10], kind) && !slices.Contains(leave, kind) {
			ahead = 0
		}
		if slices.Contains(apart, kind) {
			since = 1
		}
		x := api.Event{Kind: kind, T: 1, ID: 1, Key: 1}
		hold(t, fmt.Sprintf("Passed of kind %d ahead", kind), bound.Passed([]api.Event{release(1, 1), x, look(0, 9), claim(0, 5, 9)}, 3), ahead)
		hold(t, fmt.Sprintf("Passed of kind %d since", kind), bound.Passed([]api.Event{release(1, 1), look(0, 9), x, claim(0, 5, 9)}, 3), since)
		x.ID = 2
		if kind != api.ERelease {
			hold(t, fmt.Sprintf("Passed of kind %d of another", kind), bound.Passed([]api.Event{release(1, 1), look(0, 9), x, claim(0, 5, 9)}, 3), 1)
		}
	}
}

// 22.1: Rho is the greatest of all, wherever it stands.
func TestRhoIsTheGreatest(t *testing.T) {
	var l []api.Event
	for id := 1; id <= 50; id++ {
		l = append(l, release(uint64(id), id))
	}
	for i, id := range []int{3, 40, 7, 39, 1} {
		l = append(l, look(i, id), claim(i, uint64(id), id))
		greatest := []int{2, 38, 38, 38, 38}[i]
		hold(t, "Rho", bound.Rho(l), greatest)
		hold(t, "Rho", bound.Rho(append(l[:len(l):len(l)], claim(77, 99, 5))), greatest)
	}
	hold(t, "Passed", each(bound.Passed, l)[50:], "[-1 2 -1 38 -1 5 -1 36 -1 0]")
}

// 22.2: the next event of its ID ends it, of whatever kind, but a look; the ID of a tick or a close is no task's.
func TestWaitsForTheNext(t *testing.T) {
	for _, kind := range kinds {
		l := []api.Event{release(9, 1), release(2, 2), claim(0, 2, 2), {Kind: kind, ID: 1, Key: 9}, release(3, 3), claim(0, 3, 3)}
		want := 1
		if slices.Contains(apart, kind) {
			want = 2
		}
		hold(t, fmt.Sprintf("Waited of kind %d", kind), bound.Waited(l, 0), want)
		l[3].ID = 1<<32 + 1
		if kind != api.EClaim {
			hold(t, fmt.Sprintf("Waited of kind %d of another", kind), bound.Waited(l, 0), 2)
		}
	}
	l := []api.Event{release(9, 1)}
	for n := range 300 {
		hold(t, "Waited to the end of the row", bound.Waited(l, 0), n)
		l = append(l, release(0, n+2), look(n%3, 1), claim(0, 0, n+2))
	}
}

// 22.2: a claim counts if what it claims was released behind, by its own last release ahead of the claim.
func TestWaitsForThoseBehind(t *testing.T) {
	for i, x := range []struct {
		l    []api.Event
		want int
	}{
		{[]api.Event{release(2, 2), release(9, 1), claim(0, 2, 2)}, 0},
		{[]api.Event{release(9, 1), release(2, 2), claim(0, 2, 2)}, 1},
		{[]api.Event{release(9, 1), claim(0, 2, 2)}, 0},
		{[]api.Event{release(9, 1), claim(0, 2, 2), release(2, 2)}, 0},
		{[]api.Event{release(2, 2), release(9, 1), claim(0, 2, 2), release(2, 2)}, 0},
		{[]api.Event{release(2, 2), release(9, 1), claim(0, 2, 2), event(api.EAgain, 2), release(2, 2), claim(0, 2, 2)}, 1},
		{[]api.Event{release(2, 2), release(9, 1), release(2, 2), claim(0, 2, 2)}, 1},
		{[]api.Event{release(9, 1), release(2, 2), claim(0, 2, 2), claim(0, 2, 2)}, 2},
		{[]api.Event{release(9, 1), release(2, 2), event(api.ECancel, 2), claim(0, 2, 2)}, 1},
		{[]api.Event{release(9, 1), release(20, 2), claim(0, 77, 2)}, 1},
		{[]api.Event{release(9, 1), release(2, 2), release(2, 3), release(2, 4), claim(0, 2, 4), claim(1, 2, 3)}, 2},
		{[]api.Event{release(9, 1), release(2, 2), claim(0, 9, 1), claim(0, 2, 2)}, 0},
	} {
		at := slices.IndexFunc(x.l, func(e api.Event) bool { return e.ID == 1 })
		hold(t, fmt.Sprintf("Waited of %d", i), bound.Waited(x.l, at), x.want)
	}
}

// passing is a row in which 1 is released, and then so many are released and claimed ahead of it.
func passing(n int) []api.Event {
	l := []api.Event{release(9, 1)}
	for i := range n {
		l = append(l, release(0, i+2), claim(0, 0, i+2))
	}
	return append(l, claim(0, 9, 1))
}

// 22.2: Beta holds each Waited against the slack of its urgency, the credits and twice the threads, and not one more.
func TestBeta(t *testing.T) {
	for _, x := range []struct {
		prio int
		c    api.Conf
		beta int
	}{
		{0, api.Conf{}, 0},
		{0, api.Conf{Credits: 1}, 1},
		{0, api.Conf{Threads: 1}, 2},
		{0, api.Conf{K: 16}, 0},
		{1, api.Conf{Threads: 2, Credits: 5}, 10},
		{3, api.Conf{}, 7},
		{7, api.Conf{}, 127},
		{8, api.Conf{}, 127},
		{math.MaxInt, api.Conf{}, 127},
		{-1, api.Conf{}, 0},
		{math.MinInt, api.Conf{}, 0},
		{2, api.Conf{Threads: -5, Credits: -5}, 3},
		{7, api.Conf{Threads: 8, K: 16, Credits: 64}, 207},
		{0, api.Conf{Credits: math.MaxInt}, 1000},
		{0, api.Conf{Threads: math.MaxInt}, 2000},
		{7, api.Conf{Threads: math.MaxInt, Credits: math.MaxInt}, 3127},
	} {
		prio := func(id int) int {
			if id == 1 {
				return x.prio
			}
			return 0
		}
		hold(t, fmt.Sprintf("Beta of %d, %+v at its bound", x.prio, x.c), bound.Beta(x.c, passing(x.beta), prio), true)
		hold(t, fmt.Sprintf("Beta of %d, %+v beyond it", x.prio, x.c), bound.Beta(x.c, passing(x.beta+1), prio), false)
	}
}

// 22.2: without prio each urgency is 7.
func TestBetaOfNil(t *testing.T) {
	for _, c := range []api.Conf{{}, {Threads: 1, Credits: 1}, {Threads: 8, K: 16, Credits: 64}} {
		most := 127 + c.Credits + 2*c.Threads
		hold(t, fmt.Sprintf("Beta of nil, %+v", c), bound.Beta(c, passing(most), nil), true)
		hold(t, fmt.Sprintf("Beta of nil, %+v", c), bound.Beta(c, passing(most+1), nil), false)
		hold(t, fmt.Sprintf("Beta of none, %+v", c), bound.Beta(c, nil, nil), true)
		hold(t, fmt.Sprintf("Beta of none, %+v", c), bound.Beta(c, []api.Event{}, func(int) int { return 0 }), true)
	}
}

// 22.2: every release is held, the first and the last, claimed or not, each by its own urgency.
func TestBetaOfEachRelease(t *testing.T) {
	long := []api.Event{release(9, 1), release(1, 2), claim(0, 1, 2), release(1, 3), claim(0, 1, 3)}
	short := []api.Event{release(5, 4), release(1, 5), claim(0, 1, 5)}
	for i, l := range [][]api.Event{
		slices.Concat(long, []api.Event{claim(0, 9, 1)}, short),
		slices.Concat(long, []api.Event{event(api.ECancel, 1)}, short),
		slices.Concat(short, []api.Event{claim(0, 5, 4)}, long),
		slices.Concat(short, []api.Event{event(api.ECancel, 4)}, long),
	} {
		for first := range 3 {
			for fourth := range 3 {
				prio := func(id int) int { return map[int]int{1: first, 4: fourth}[id] }
				want := first == 2 && fourth >= 1 // 3 and at least 1 are allowed, where 2 and 1 came by
				hold(t, fmt.Sprintf("Beta of %d, prios %d and %d", i, first, fourth), bound.Beta(api.Conf{}, l, prio), want)
			}
		}
	}
}

// 22.2, 22.4: prio is asked about released ones alone; if it panics of one of those, what is allowed is not said.
func TestPrioPanics(t *testing.T) {
	l := []api.Event{event(api.EMake, 5), claim(0, 1, 6), look(0, 7), {Kind: api.ETick, ID: 8}, release(1, 1), release(1, 2), event(api.ECancel, 9)}
	for id := range 10 {
		prio := func(asked int) int {
			if asked == id {
				panic("not told")
			}
			return 7
		}
		hold(t, fmt.Sprintf("Beta without prio of %d", id), bound.Beta(api.Conf{}, l, prio), id != 1 && id != 2)
	}
	hold(t, "Beta of no release", bound.Beta(api.Conf{}, l[:4], func(int) int { panic("not told") }), true)
	hold(t, "Beta of a nil panic", bound.Beta(api.Conf{}, l, func(int) int { panic(nil) }), false)
	var none []int
	hold(t, "Beta of a place that there is not", bound.Beta(api.Conf{}, l, func(id int) int { return none[id] }), false)
}

// 22.3: the numbers of the page, and each bound alone.
func TestPhi(t *testing.T) {
	for _, x := range [][4]int{
		{1, 1, 0, 10}, {0, 0, 0, 0}, {1, 0, 0, 5}, {1, 0, 16, 5}, {2, 0, 0, 10}, {1, 1, 1, 11}, {2, 3, 4, 64}, {3, 2, 4, 69}, {8, 200, 16, 33640},
		{0, 5, 5, 0}, {-1, 5, 5, 0}, {math.MinInt, 5, 5, 0}, {1, -1, 5, 5}, {1, math.MinInt, 5, 5}, {1, 5, -1, 30}, {1, 5, math.MinInt, 30}, {-1, -1, -1, 0},
		{999, 0, 0, 4995}, {1000, 0, 0, 5000}, {1001, 0, 0, 5000}, {math.MaxInt, 0, 0, 5000},
		{1, 999, 0, 5000}, {1, 1000, 0, 5005}, {1, 1001, 0, 5005}, {1, math.MaxInt, 0, 5005},
		{1, 1, 999, 1009}, {1, 1, 1000, 1010}, {1, 1, 1001, 1010}, {1, 1, math.MaxInt, 1010},
		{1000, 1000, 1000, 1005005000}, {math.MaxInt, math.MaxInt, math.MaxInt, 1005005000}, {1 << 32, 1 << 32, 1 << 32, 1005005000},
	} {
		hold(t, fmt.Sprintf("Phi(%d, %d, %d)", x[0], x[1], x[2]), bound.Phi(x[0], x[1], x[2]), x[3])
	}
}

// 22.3: a release's claim is the next thing that happens to what it released.
func TestBehind(t *testing.T) {
	for i, x := range []struct {
		l    []api.Event
		want int
	}{
		{[]api.Event{release(9, 1), claim(0, 9, 1)}, 0},
		{[]api.Event{release(9, 1), claim(0, 2, 2), claim(0, 9, 1)}, 1},
		{[]api.Event{release(2, 2), release(9, 1), claim(0, 2, 2), claim(0, 9, 1)}, 1}, // whenever it was released
		{[]api.Event{claim(0, 2, 2), release(9, 1), claim(0, 9, 1), claim(0, 3, 3)}, 0},
		{[]api.Event{release(9, 1), claim(0, 2, 2), claim(0, 3, 3)}, 0}, // never claimed
		{[]api.Event{release(9, 1), claim(0, 2, 2), event(api.ECancel, 1)}, 0},
		{[]api.Event{release(9, 1), claim(0, 2, 2), event(api.ECancel, 1), claim(0, 9, 1)}, 0},
		{[]api.Event{release(9, 1), claim(0, 2, 2), release(9, 1), claim(0, 3, 3), claim(0, 9, 1)}, 1},
		{[]api.Event{release(9, 1), claim(0, 9, 1), claim(0, 2, 2), claim(0, 9, 1)}, 0},
		{[]api.Event{release(9, 1), claim(0, 2, 2), claim(0, 77, 1)}, 1}, // its key is not asked for
		{slices.Concat(passing(5), passing(3)), 5},
		{slices.Concat(passing(3), passing(5)), 5},
		{passing(300), 300},
	} {
		hold(t, fmt.Sprintf("Behind of %d", i), bound.Behind(x.l), x.want)
	}
	for _, kind := range kinds {
		want := 0
		if slices.Contains(apart, kind) || kind == api.EClaim {
			want = 2
		}
		l := []api.Event{release(9, 1), claim(0, 2, 2), claim(0, 3, 3), {Kind: kind, ID: 1, Key: 9}, claim(0, 9, 1)}
		hold(t, fmt.Sprintf("Behind of kind %d", kind), bound.Behind(l), want)
	}
}

// W1, 22.4: what is handed in stays, its spare room too, and asking changes no later answer.
func TestWhatIsHandedInStays(t *testing.T) {
	mark := api.Event{Kind: 77, T: 77, ID: 77, Key: 77, Ticket: 77, Now: 77}
	l := append(make([]api.Event, 0, 40), tale()...)
	for i := range l[len(l):cap(l)] {
		l[len(l):cap(l)][i] = mark
	}
	var seen []string
	for range 3 {
		seen = append(seen, fmt.Sprint(each(bound.Passed, l), each(bound.Waited, l), bound.Rho(l), bound.Behind(l), bound.Beta(api.Conf{}, l, func(id int) int { return id % 2 }), bound.Beta(api.Conf{}, l, nil)))
		hold(t, "the answers", seen[len(seen)-1], seen[0])
		hold(t, "what was handed in", l, fmt.Sprint(tale()))
	}
	for _, e := range l[len(l):cap(l)] {
		hold(t, "the spare room", e, mark)
	}
}
