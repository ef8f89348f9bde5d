package grid_test

import (
	"math/big"
	"testing"

	"verger/api"
	"verger/grid"
)

// ledger has what became of each tick of a grid.
type ledger struct {
	run, missed map[uint64]int
}

// step lets j run at now, and enters what became of its tick and of those up to the next.
func (l ledger) step(t *testing.T, j api.Job, now uint64) (api.Job, bool) {
	t.Helper()
	next, ok := grid.After(j, now)
	l.run[j.Due]++
	count := uint64(0)
	for at := j.Due; at < now && now-at >= j.Period; count++ {
		at += j.Period
		l.missed[at]++
	}
	if next.Runs != j.Runs+1 || next.Missed != j.Missed+count {
		t.Fatalf("After(%v, %d) = %v, want %d missed", j, now, next, count)
	}
	if ok && (next.Due <= now || next.Due <= j.Due) || !ok && next.Due != j.Due {
		t.Fatalf("After(%v, %d) = %v, %t", j, now, next, ok)
	}
	return next, ok
}

// whole tells that every tick of j's grid below an end was run or missed, once, and none beyond it.
func (l ledger) whole(t *testing.T, j api.Job, end *big.Int) {
	t.Helper()
	entered := 0
	at := bigOf(j.First)
	for ; at.Cmp(end) < 0; at.Add(at, bigOf(j.Period)) {
		n := l.run[at.Uint64()] + l.missed[at.Uint64()]
		if n != 1 {
			t.Fatalf("%v: tick %v was run or missed %d times", j, at, n)
		}
		entered++
	}
	if len(l.run)+len(l.missed) != entered || uint64(entered) != j.Runs+j.Missed {
		t.Fatalf("%v: %d run, %d missed, of %d", j, len(l.run), len(l.missed), entered)
	}
}

// 13.2, W2: every row of four runs, each at any of the ticks about its due one, is held tick by tick.
func TestEachTickIsRunOrMissedOnce(t *testing.T) {
	const rows, wide = 4, 9
	for _, first := range []uint64{0, 1, 5, 1 << 32, 1<<63 - 4, last - 40, last - 20, last - 9, last - 3, last} {
		for _, period := range []uint64{1, 2, 3, 7} {
			for row := range wide * wide * wide * wide {
				j, _ := grid.New(first, period)
				l := ledger{run: map[uint64]int{}, missed: map[uint64]int{}}
				ok := true
				for i := 0; i < rows && ok; i++ {
					j, ok = l.step(t, j, about(j.Due, row%wide))
					row /= wide
				}
				end := bigOf(j.Due)
				if !ok {
					end = new(big.Int).Add(bigOf(last), big.NewInt(1))
				}
				l.whole(t, j, end)
			}
		}
	}
}

// about is a tick from two below due on, or the bound of time where there is none so far.
func about(due uint64, n int) uint64 {
	if n < 2 {
		return due - min(due, uint64(2-n))
	}
	return due + min(last-due, uint64(n-2))
}

// 13.2: the counts are held where a run is late by more ticks than can be gone through.
func TestCountsOfFarRuns(t *testing.T) {
	for _, first := range near {
		for _, period := range near[1:] {
			j, _ := grid.New(first, period)
			for _, now := range near {
				next, ok := grid.After(j, now)
				end := max(now, j.Due)
				if ok {
					end = next.Due - 1
				}
				sum := new(big.Int).Add(bigOf(next.Runs), bigOf(next.Missed))
				if want := upTo(first, period, end); sum.Cmp(want) != 0 {
					t.Fatalf("After(%v, %d) = %v: run and missed are %v, want %v", j, now, next, sum, want)
				}
				if !ok && len(grid.Ahead(j, end, 1)) != 0 {
					t.Fatalf("After(%v, %d) is false, but there is a tick ahead", j, now)
				}
				if !ok {
					break
				}
				j = next
			}
		}
	}
}

// 13.2: a job goes to the tick that Ahead tells.
func TestAfterGoesToTheFirstAhead(t *testing.T) {
	for _, first := range near {
		for _, period := range near {
			for _, now := range near {
				j := job(first, period, first, 0, 0)
				next, ok := grid.After(j, now)
				ahead := grid.Ahead(j, max(now, first), 1)
				if ok != (len(ahead) == 1) || ok && next.Due != ahead[0] {
					t.Errorf("After(%v, %d) = %v, %t, but ahead is %v", j, now, next, ok, ahead)
				}
			}
		}
	}
}

// 13.3: whatever numbers a job has; a way that goes through a grid's ticks would not end here.
func TestNoPanic(t *testing.T) {
	defer func() {
		if r := recover(); r != nil {
			t.Fatal(r)
		}
	}()
	few := []uint64{0, 1, 2, 1<<32 - 1, 1<<63 - 1, 1 << 63, last - 1, last}
	for _, first := range few {
		for _, period := range few {
			grid.New(first, period)
			for _, due := range few {
				for _, count := range few {
					j := job(first, period, due, count, last-count)
					grid.Ok(j)
					for _, now := range few {
						grid.After(j, now)
						grid.After(job(first, period, due, last, last), now)
						for _, n := range lengths {
							if got := len(grid.Ahead(j, now, n)); got > 100 || n < 0 && got > 0 {
								t.Errorf("Ahead(%v, %d, %d) has %d", j, now, n, got)
							}
						}
					}
				}
			}
		}
	}
}
