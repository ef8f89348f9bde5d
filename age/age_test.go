package age_test

import (
	"math"
	"math/big"
	"testing"

	"verger/age"
	"verger/api"
)

const last = math.MaxUint64

// prios has every urgency that there is, those next to them, and numbers whose low bits alone are an urgency.
var prios = []int{0, 1, 2, 3, 4, 5, 6, 7, -1, -2, -7, -8, -64, 8, 9, 15, 16, 31, 32, 63, 64, 65, 127, 128, 1 << 8, 1<<8 + 3, 1 << 16, 1<<31 - 1, 1 << 32, 1<<32 + 3, math.MinInt32, -1 << 32, math.MinInt, math.MinInt + 3, math.MaxInt - 1, math.MaxInt}

// counts has numbers about both bounds, and some whose sum or product runs over.
var counts = []int{0, 1, 2, 3, 8, 16, 64, 500, 998, 999, 1000, 1001, 1002, 1023, 1024, 2000, 1 << 16, 1<<31 - 1, 1 << 31, 1 << 32, 1<<32 + 2, 1 << 62, math.MaxInt / 2, math.MaxInt - 1, math.MaxInt, -1, -2, -3, -999, -1000, -1001, -1 << 31, -1 << 32, math.MinInt / 2, math.MinInt + 1, math.MinInt}

// tickets has ticks about both bounds, about every slack, and about the bounds of narrower numbers.
var tickets = []uint64{0, 1, 2, 3, 4, 6, 7, 8, 10, 15, 16, 31, 63, 64, 126, 127, 128, 1<<31 - 1, 1 << 31, 1<<32 - 1, 1 << 32, 1<<63 - 128, 1<<63 - 127, 1<<63 - 1, 1 << 63, 1<<63 + 1, last - 129, last - 128, last - 127, last - 126, last - 64, last - 63, last - 8, last - 7, last - 6, last - 3, last - 2, last - 1, last}

func e(key uint64, id int) api.Entry { return api.Entry{Key: key, ID: id} }

// slackOf goes by doubling, one step of urgency at a time.
func slackOf(prio int) uint64 {
	slack := uint64(0)
	for step := 0; step < prio && step < 7; step++ {
		slack = 2*slack + 1
	}
	return slack
}

// keyOf has room for any sum, and goes back to the last tick at the end alone.
func keyOf(ticket uint64, prio int) uint64 {
	sum := new(big.Int).SetUint64(ticket)
	sum.Add(sum, new(big.Int).SetUint64(slackOf(prio)))
	if !sum.IsUint64() {
		return last
	}
	return sum.Uint64()
}

func counted(n int) int {
	switch {
	case n < 0:
		return 0
	case n > 1000:
		return 1000
	}
	return n
}

// rhoOf goes one thread at a time.
func rhoOf(threads, k int) int {
	sum := counted(k)
	for range counted(threads) {
		sum += counted(k) + 1
	}
	return sum
}

func betaOf(prio, credits, threads int) int {
	return int(slackOf(prio)) + counted(credits) + counted(threads) + counted(threads)
}

// 11.1: the numbers of each urgency, written out.
func TestSlackOfEachUrgency(t *testing.T) {
	for prio, want := range []uint64{0, 1, 3, 7, 15, 31, 63, 127} {
		if got := age.Slack(prio); got != want {
			t.Errorf("Slack(%d) = %d, want %d", prio, got, want)
		}
	}
}

// 11.1: below 0 as 0, above 7 as 7.
func TestSlackOutsideItsBounds(t *testing.T) {
	for _, prio := range prios {
		if got, want := age.Slack(prio), slackOf(prio); got != want {
			t.Errorf("Slack(%d) = %d, want %d", prio, got, want)
		}
	}
	for n := range 2000 {
		if got := age.Slack(-n); got != 0 {
			t.Errorf("Slack(%d) = %d, want 0", -n, got)
		}
		if got := age.Slack(7 + n); got != 127 {
			t.Errorf("Slack(%d) = %d, want 127", 7+n, got)
		}
	}
}

// 11.1
func TestKey(t *testing.T) {
	for _, x := range []struct {
		ticket uint64
		prio   int
		want   uint64
	}{
		{10, 3, 17},
		{0, 0, 0},
		{0, 7, 127},
		{5, 0, 5},
		{5, -1, 5},
		{5, 8, 132},
		{last - 127, 7, last},
		{last - 128, 7, last - 1},
		{last - 126, 7, last},
		{last, 0, last},
		{last, 1, last},
		{last, 7, last},
		{last - 1, 1, last},
		{last - 1, 2, last},
		{1<<63 - 1, 1, 1 << 63},
	} {
		if got := age.Key(x.ticket, x.prio); got != x.want {
			t.Errorf("Key(%d, %d) = %d, want %d", x.ticket, x.prio, got, x.want)
		}
	}
}

// 11.1: a key that would be beyond the last tick is that one.
func TestKeyStaysAtTheLastTick(t *testing.T) {
	for _, ticket := range tickets {
		for _, prio := range prios {
			if got, want := age.Key(ticket, prio), keyOf(ticket, prio); got != want {
				t.Errorf("Key(%d, %d) = %d, want %d", ticket, prio, got, want)
			}
		}
	}
}

// 11.1: the ticket alone tells; the ID does not.
func TestOverdue(t *testing.T) {
	for _, key := range tickets {
		for _, ticket := range tickets {
			want := new(big.Int).SetUint64(key).Cmp(new(big.Int).SetUint64(ticket)) <= 0
			for _, id := range []int{0, 1, -1, math.MaxInt, math.MinInt} {
				if got := age.Overdue(e(key, id), ticket); got != want {
					t.Errorf("Overdue(%d:%d, %d) = %v, want %v", key, id, ticket, got, want)
				}
			}
		}
	}
}

// 11.1: what is released is overdue when so many have been claimed as its slack says, and not one sooner.
func TestOverdueAfterItsSlack(t *testing.T) {
	for prio := range 8 {
		for _, ticket := range []uint64{0, 1, 10, 1 << 32, 1<<63 - 60, last - 127} {
			x := e(age.Key(ticket, prio), 1)
			slack := slackOf(prio)
			for claims := uint64(0); claims <= slack; claims++ {
				if got, want := age.Overdue(x, ticket+claims), claims == slack; got != want {
					t.Errorf("prio %d, ticket %d and %d: overdue %v, want %v", prio, ticket, claims, got, want)
				}
			}
		}
	}
}

// 11.1
func TestRho(t *testing.T) {
	for _, x := range [][3]int{
		{2, 3, 11},
		{1, 0, 1},
		{0, 0, 0},
		{0, 5, 5},
		{5, 0, 5},
		{1, 1, 3},
		{8, 16, 152},
		{-1, 5, 5},
		{5, -1, 5},
		{-1, -1, 0},
		{999, 0, 999},
		{1000, 0, 1000},
		{1001, 0, 1000},
		{0, 999, 999},
		{0, 1000, 1000},
		{0, 1001, 1000},
		{1000, 1000, 1002000},
		{1001, 1001, 1002000},
		{math.MaxInt, math.MaxInt, 1002000},
		{math.MaxInt, 1, 2001},
		{1, math.MaxInt, 2001},
		{math.MinInt, math.MaxInt, 1000},
		{math.MaxInt, math.MinInt, 1000},
		{math.MinInt, math.MinInt, 0},
	} {
		if got := age.Rho(x[0], x[1]); got != x[2] {
			t.Errorf("Rho(%d, %d) = %d, want %d", x[0], x[1], got, x[2])
		}
	}
}

// 11.1
func TestBeta(t *testing.T) {
	for _, x := range [][4]int{
		{1, 5, 2, 10},
		{0, 0, 0, 0},
		{0, 1, 1, 3},
		{7, 0, 0, 127},
		{3, 0, 5, 17},
		{7, 64, 8, 207},
		{0, 999, 0, 999},
		{0, 1000, 0, 1000},
		{0, 1001, 0, 1000},
		{0, 0, 999, 1998},
		{0, 0, 1000, 2000},
		{0, 0, 1001, 2000},
		{8, 1, 0, 128},
		{1000, 1, 0, 128},
		{-1, 1, 0, 1},
		{3, -1, 0, 7},
		{3, 0, -1, 7},
		{math.MaxInt, math.MaxInt, math.MaxInt, 3127},
		{math.MinInt, math.MaxInt, math.MaxInt, 3000},
		{math.MinInt, math.MinInt, math.MinInt, 0},
	} {
		if got := age.Beta(x[0], x[1], x[2]); got != x[3] {
			t.Errorf("Beta(%d, %d, %d) = %d, want %d", x[0], x[1], x[2], got, x[3])
		}
	}
}

// 11.1: each number alone goes to the nearer bound, beside every other.
func TestRhoAndBetaOutsideTheirBounds(t *testing.T) {
	for _, a := range counts {
		for _, b := range counts {
			if got, want := age.Rho(a, b), rhoOf(a, b); got != want {
				t.Errorf("Rho(%d, %d) = %d, want %d", a, b, got, want)
			}
			for _, prio := range prios {
				if got, want := age.Beta(prio, a, b), betaOf(prio, a, b); got != want {
					t.Errorf("Beta(%d, %d, %d) = %d, want %d", prio, a, b, got, want)
				}
			}
		}
	}
}

// 11.1: the least's Key alone tells; that of the other, and which of the two stands ahead, do not.
func TestChoose(t *testing.T) {
	for _, least := range tickets {
		for _, relaxed := range tickets {
			for _, ticket := range tickets {
				a, b := e(least, 1), e(relaxed, 2)
				want := b
				if least <= ticket {
					want = a
				}
				if got := age.Choose(a, b, ticket); got != want {
					t.Errorf("Choose(%v, %v, %d) = %v, want %v", a, b, ticket, got, want)
				}
			}
		}
	}
}

// 11.1: whatever IDs they have; an entry of zeros is one too, and overdue from the first ticket on.
func TestChooseOfAnyIDs(t *testing.T) {
	ids := []int{0, 1, -1, math.MaxInt, math.MinInt}
	for _, one := range ids {
		for _, other := range ids {
			if got := age.Choose(e(7, one), e(9, other), 7); got != e(7, one) {
				t.Errorf("Choose(7:%d, 9:%d, 7) = %v", one, other, got)
			}
			if got := age.Choose(e(7, one), e(9, other), 6); got != e(9, other) {
				t.Errorf("Choose(7:%d, 9:%d, 6) = %v", one, other, got)
			}
		}
	}
	if got := age.Choose(api.Entry{}, e(9, 2), 0); got != (api.Entry{}) {
		t.Errorf("Choose(0:0, 9:2, 0) = %v", got)
	}
	if got := age.Choose(e(9, 2), api.Entry{}, 8); got != (api.Entry{}) {
		t.Errorf("Choose(9:2, 0:0, 8) = %v", got)
	}
}

// waiting is a task of the play below: its entry, its urgency, and how many claims of what came behind it there were.
type waiting struct {
	e      api.Entry
	prio   int
	passed int
}

// play lets tasks in with the worst that a relaxed look could find: each look is told what to find, and may be acted on long after.
type play struct {
	t       *testing.T
	credits int
	ticket  uint64
	next    int
	ready   []waiting // as they were released
	looks   []api.Entry
	most    int
}

func newPlay(t *testing.T, threads, credits int, ticket uint64) *play {
	return &play{t: t, credits: credits, ticket: ticket, next: 1, looks: make([]api.Entry, threads)}
}

// release gives IDs that fall, so that what comes behind is ahead where the keys are the same.
func (p *play) release(prio int) {
	if len(p.ready) < p.credits {
		p.ready = append(p.ready, waiting{e: e(age.Key(p.ticket, prio), -p.next), prio: prio})
		p.next++
	}
}

func (p *play) least() api.Entry {
	least := p.ready[0].e
	for _, w := range p.ready {
		if w.e.Key < least.Key || w.e.Key == least.Key && w.e.ID < least.ID {
			least = w.e
		}
	}
	return least
}

// look finds the one that stands at a place from the last that was released.
func (p *play) look(thread, back int) {
	if len(p.ready) > 0 {
		relaxed := p.ready[len(p.ready)-1-back%len(p.ready)].e
		p.looks[thread] = age.Choose(p.least(), relaxed, p.ticket)
	}
}

// claim does nothing, if what was found is gone since.
func (p *play) claim(thread int) {
	for at, w := range p.ready {
		if w.e != p.looks[thread] {
			continue
		}
		for i := range at {
			p.pass(i)
		}
		p.ready = append(p.ready[:at:at], p.ready[at+1:]...)
		p.ticket++
		return
	}
}

func (p *play) pass(i int) {
	w := &p.ready[i]
	w.passed++
	p.most = max(p.most, w.passed)
	if beta := age.Beta(w.prio, p.credits, len(p.looks)); w.passed > beta {
		p.t.Fatalf("%d threads, %d credits: %v of prio %d was passed over by %d, Beta is %d", len(p.looks), p.credits, w.e, w.prio, w.passed, beta)
	}
}

// W5: of what is released behind a task at most Beta are claimed ahead of it, though every look finds what came last, and many looks are old when they are acted on.
func TestNotPassedOverByDraws(t *testing.T) {
	for _, threads := range []int{1, 2, 3, 8} {
		for _, credits := range []int{1, 2, 3, 8, 64} {
			p := newPlay(t, threads, credits, 5)
			state := uint64(threads*100 + credits)
			for range 20000 {
				state = state*6364136223846793005 + 1442695040888963407
				draw := int(state >> 33)
				thread, much := draw>>3%threads, draw>>6
				switch draw & 7 {
				case 0, 1, 2:
					p.release(much % 8 * (much >> 3 & 1))
				case 3, 4:
					p.look(thread, much%3)
				default:
					p.claim(thread)
				}
			}
		}
	}
}

// W5: one task is waiting, and as many urgent ones as there may be come behind it, as often as there is room. Those of its slack and those of all other credits do come by, and then the task is claimed.
func TestNotPassedOverByUrgentOnes(t *testing.T) {
	for prio := range 8 {
		for threads := 1; threads <= 8; threads++ {
			for _, credits := range []int{2, 3, 8, 16, 64} {
				p := newPlay(t, threads, credits, 0)
				p.release(prio)
				first := p.ready[0].e
				for range age.Beta(prio, credits, threads) + 1 {
					for range credits {
						p.release(0)
					}
					for thread := range threads {
						p.look(thread, thread)
					}
					for thread := range threads {
						p.claim(thread)
					}
				}
				if reached := int(slackOf(prio)) + credits - 1; p.most < reached {
					t.Errorf("prio %d, %d threads, %d credits: passed over by %d, want at least %d", prio, threads, credits, p.most, reached)
				}
				for _, w := range p.ready {
					if w.e == first {
						t.Errorf("prio %d, %d threads, %d credits: never claimed", prio, threads, credits)
					}
				}
			}
		}
	}
}

// 11.2, W1: whatever the numbers, each call answers, and what it should.
func FuzzCalls(f *testing.F) {
	f.Add(3, 0, 0, uint64(10), uint64(17), 1, uint64(9), 2)
	f.Add(math.MaxInt, math.MaxInt, math.MaxInt, uint64(last), uint64(last), math.MaxInt, uint64(last), math.MinInt)
	f.Add(math.MinInt, math.MinInt, math.MinInt, uint64(0), uint64(1), math.MinInt, uint64(0), math.MaxInt)
	f.Add(7, 64, 8, uint64(last-126), uint64(last-127), 0, uint64(1<<63), -1)
	f.Add(8, 1001, -1, uint64(1<<63), uint64(1<<63-1), 4, uint64(5), 4)
	f.Fuzz(func(t *testing.T, prio, a, b int, ticket, key uint64, id int, otherKey uint64, otherID int) {
		if got, want := age.Slack(prio), slackOf(prio); got != want {
			t.Errorf("Slack(%d) = %d, want %d", prio, got, want)
		}
		if got, want := age.Key(ticket, prio), keyOf(ticket, prio); got != want {
			t.Errorf("Key(%d, %d) = %d, want %d", ticket, prio, got, want)
		}
		if got, want := age.Rho(a, b), rhoOf(a, b); got != want {
			t.Errorf("Rho(%d, %d) = %d, want %d", a, b, got, want)
		}
		if got, want := age.Beta(prio, a, b), betaOf(prio, a, b); got != want {
			t.Errorf("Beta(%d, %d, %d) = %d, want %d", prio, a, b, got, want)
		}
		least, relaxed := e(key, id), e(otherKey, otherID)
		want := relaxed
		if key <= ticket {
			want = least
		}
		if got := age.Overdue(least, ticket); got != (key <= ticket) {
			t.Errorf("Overdue(%v, %d) = %v", least, ticket, got)
		}
		if got := age.Choose(least, relaxed, ticket); got != want {
			t.Errorf("Choose(%v, %v, %d) = %v, want %v", least, relaxed, ticket, got, want)
		}
	})
}
