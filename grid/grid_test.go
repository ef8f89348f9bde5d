package grid_test

import (
	"math"
	"math/big"
	"slices"
	"testing"

	"verger/api"
	"verger/grid"
)

const last = math.MaxUint64

// near has ticks about both bounds, and about those of narrower numbers and of numbers with a sign.
var near = []uint64{0, 1, 2, 3, 5, 8, 12, 99, 100, 101, 1<<31 - 1, 1 << 31, 1<<32 - 1, 1 << 32, 1<<32 + 1, 1<<62 + 3, 1<<63 - 1, 1 << 63, 1<<63 + 1, last / 3, last/3 + 1, last / 2, last - 101, last - 100, last - 5, last - 3, last - 2, last - 1, last}

// lengths has numbers about both bounds of an answer's length, and some whose low bits alone lie within them.
var lengths = []int{0, 1, 2, 3, 50, 99, 100, 101, 102, 127, 128, 200, 256, 258, 1 << 16, 1<<31 - 1, 1 << 31, 1 << 32, 1<<32 + 2, 1 << 62, math.MaxInt - 1, math.MaxInt, -1, -2, -4, -99, -100, -101, -254, -1 << 31, -1<<32 + 2, math.MinInt + 2, math.MinInt}

func job(first, period, due, runs, missed uint64) api.Job {
	return api.Job{First: first, Period: period, Due: due, Runs: runs, Missed: missed}
}

func bigOf(n uint64) *big.Int {
	return new(big.Int).SetUint64(n)
}

// upTo is how many ticks of a grid are not above to; it has room for any number of them.
func upTo(first, period, to uint64) *big.Int {
	if first > to {
		return new(big.Int)
	}
	n := new(big.Int).Sub(bigOf(to), bigOf(first))
	n.Div(n, bigOf(period))
	return n.Add(n, big.NewInt(1))
}

// gridTick is the tick of a grid with so many ahead of it, whether there is room for it or not.
func gridTick(first, period uint64, at *big.Int) *big.Int {
	n := new(big.Int).Mul(at, bigOf(period))
	return n.Add(n, bigOf(first))
}

// okOf finds the tick of the grid that is nearest to Due from below, and asks whether it is Due.
func okOf(j api.Job) bool {
	if j.Period == 0 || j.Due < j.First {
		return false
	}
	at := upTo(j.First, j.Period, j.Due)
	at.Sub(at, big.NewInt(1))
	return gridTick(j.First, j.Period, at).Cmp(bigOf(j.Due)) == 0
}

// afterOf counts without a bound, and goes back to ticks at the end alone.
func afterOf(j api.Job, now uint64) (api.Job, bool) {
	if !okOf(j) {
		return j, false
	}
	passed := upTo(j.First, j.Period, j.Due)
	if now > j.Due {
		met := upTo(j.First, j.Period, now)
		j.Missed += new(big.Int).Sub(met, passed).Uint64()
		passed = met
	}
	j.Runs++
	next := gridTick(j.First, j.Period, passed)
	if !next.IsUint64() {
		return j, false
	}
	j.Due = next.Uint64()
	return j, true
}

// aheadOf looks for each tick anew.
func aheadOf(j api.Job, now uint64, n int) []uint64 {
	var all []uint64
	for i := 0; i < n && i < 100 && j.Period > 0; i++ {
		at := upTo(j.First, j.Period, now)
		at.Add(at, big.NewInt(int64(i)))
		next := gridTick(j.First, j.Period, at)
		if !next.IsUint64() {
			break
		}
		all = append(all, next.Uint64())
	}
	return all
}

// 13.1
func TestNew(t *testing.T) {
	for _, first := range near {
		for _, period := range near[1:] {
			j, err := grid.New(first, period)
			if want := job(first, period, first, 0, 0); j != want || err != api.OK {
				t.Errorf("New(%d, %d) = %v, %v, want %v", first, period, j, err, want)
			}
			if !grid.Ok(j) {
				t.Errorf("Ok of New(%d, %d) is false", first, period)
			}
		}
	}
}

// 13.1: beside the error there is an empty job.
func TestNewWithoutPeriod(t *testing.T) {
	for _, first := range near {
		if j, err := grid.New(first, 0); j != (api.Job{}) || err != api.ErrArg {
			t.Errorf("New(%d, 0) = %v, %v, want an empty job and ErrArg", first, j, err)
		}
	}
}

// 13.1
func TestAfter(t *testing.T) {
	for _, x := range []struct {
		j    api.Job
		now  uint64
		want api.Job
		ok   bool
	}{
		{job(5, 3, 5, 0, 0), 12, job(5, 3, 14, 1, 2), true},
		{job(5, 3, 5, 0, 0), 5, job(5, 3, 8, 1, 0), true},
		{job(5, 3, 5, 0, 0), 7, job(5, 3, 8, 1, 0), true},
		{job(5, 3, 5, 0, 0), 8, job(5, 3, 11, 1, 1), true},
		{job(5, 3, 8, 1, 0), 10, job(5, 3, 11, 2, 0), true},
		{job(5, 3, 8, 1, 4), 11, job(5, 3, 14, 2, 5), true},
		// What runs ahead of its due tick has run for it; that tick does not come again.
		{job(5, 3, 5, 0, 0), 0, job(5, 3, 8, 1, 0), true},
		{job(5, 3, 14, 3, 7), 5, job(5, 3, 17, 4, 7), true},
		{job(5, 3, 14, 3, 7), 13, job(5, 3, 17, 4, 7), true},
		// Every tick is of this grid, tick 0 too.
		{job(0, 1, 0, 0, 0), 0, job(0, 1, 1, 1, 0), true},
		{job(0, 1, 0, 0, 0), last - 1, job(0, 1, last, 1, last-1), true},
		{job(0, 1, last-1, 0, 0), 0, job(0, 1, last, 1, 0), true},
		{job(0, last, 0, 0, 0), 7, job(0, last, last, 1, 0), true},
		{job(last-6, 3, last-6, 0, 0), last - 1, job(last-6, 3, last, 1, 1), true},
		// The counts go on from what they were, above what narrower numbers hold too.
		{job(5, 3, 5, 1<<32-1, 1<<32-1), 12, job(5, 3, 14, 1<<32, 1<<32+1), true},
		{job(5, 3, 5, 1<<63-1, 1<<63-2), 12, job(5, 3, 14, 1<<63, 1<<63), true},
		{job(5, 3, 5, last-1, last-2), 12, job(5, 3, 14, last, last), true},
	} {
		if got, ok := grid.After(x.j, x.now); got != x.want || ok != x.ok {
			t.Errorf("After(%v, %d) = %v, %t, want %v, %t", x.j, x.now, got, ok, x.want, x.ok)
		}
	}
}

// 13.1: where there is no next tick, all but Due is turned.
func TestAfterTheLast(t *testing.T) {
	for _, x := range []struct {
		j    api.Job
		now  uint64
		want api.Job
	}{
		{job(0, 1, last, 0, 0), last, job(0, 1, last, 1, 0)},
		{job(0, 1, last, 8, 9), 0, job(0, 1, last, 9, 9)},
		{job(0, 1, 9, 0, 0), last, job(0, 1, 9, 1, last-9)},
		{job(0, 1, 0, 0, 0), last, job(0, 1, 0, 1, last)},
		{job(5, last, 5, 0, 0), 9, job(5, last, 5, 1, 0)},
		{job(5, last, 5, 0, 0), 0, job(5, last, 5, 1, 0)},
		{job(1, last, 1, 2, 3), last, job(1, last, 1, 3, 3)},
		{job(0, last, 0, 0, 0), last, job(0, last, 0, 1, 1)},
		{job(0, 1<<63, 0, 0, 0), 1 << 63, job(0, 1<<63, 0, 1, 1)},
		{job(0, 1<<63, 1<<63, 0, 0), 0, job(0, 1<<63, 1<<63, 1, 0)},
		{job(last, last, last, 0, 0), 3, job(last, last, last, 1, 0)},
		{job(last-6, 3, last-6, 0, 0), last, job(last-6, 3, last-6, 1, 2)},
		{job(last-5, 3, last-5, 4, 1), last - 2, job(last-5, 3, last-5, 5, 2)},
	} {
		if got, ok := grid.After(x.j, x.now); got != x.want || ok {
			t.Errorf("After(%v, %d) = %v, %t, want %v, false", x.j, x.now, got, ok, x.want)
		}
	}
}

// 13.1: a job that is not Ok is answered as it is, its counts too.
func TestAfterOfWrongJobs(t *testing.T) {
	for _, j := range []api.Job{
		{},
		job(5, 0, 5, 9, 2),
		job(5, 0, 8, 0, 0),
		job(0, 0, last, last, last),
		job(5, 3, 6, 0, 0),
		job(5, 3, 7, 1, 1),
		job(5, 3, 2, 4, 4),
		job(5, 3, 0, 0, 0),
		job(5, 5, 0, 0, 0),
		job(1, last, 0, 0, 0),
		job(1, last, last, 3, 0),
		job(last, 1, last-1, 0, 7),
		job(0, 1<<63, last, last, last),
	} {
		for _, now := range near {
			if got, ok := grid.After(j, now); got != j || ok {
				t.Errorf("After(%v, %d) = %v, %t, want it as it is, false", j, now, got, ok)
			}
		}
	}
}

// 13.1: against going through the grid tick by tick, of jobs that are not Ok too.
func TestAfterTickByTick(t *testing.T) {
	const end = 22
	for first := range uint64(8) {
		for period := range uint64(8) {
			for due := range uint64(end) {
				j, onGrid := job(first, period, due, 3, 5), false
				for at := first; period > 0 && at <= due; at += period {
					onGrid = at == due
				}
				if got := grid.Ok(j); got != onGrid {
					t.Errorf("Ok(%v) = %t, want %t", j, got, onGrid)
				}
				for now := range uint64(end) {
					want := j
					if onGrid {
						want.Runs++
						for want.Due += period; want.Due <= now; want.Due += period {
							want.Missed++
						}
					}
					if got, ok := grid.After(j, now); got != want || ok != onGrid {
						t.Errorf("After(%v, %d) = %v, %t, want %v, %t", j, now, got, ok, want, onGrid)
					}
				}
			}
		}
	}
}

// 13.1: against numbers without a bound, of all that lie near one.
func TestAfterNearBounds(t *testing.T) {
	for _, first := range near {
		for _, period := range near {
			for _, due := range near {
				j := job(first, period, due, 0, 0)
				if got, want := grid.Ok(j), okOf(j); got != want {
					t.Errorf("Ok(%v) = %t, want %t", j, got, want)
				}
				for _, now := range near {
					want, wantOk := afterOf(j, now)
					if got, ok := grid.After(j, now); got != want || ok != wantOk {
						t.Errorf("After(%v, %d) = %v, %t, want %v, %t", j, now, got, ok, want, wantOk)
					}
				}
			}
		}
	}
}

// 13.1
func TestAhead(t *testing.T) {
	for _, x := range []struct {
		first, period, now uint64
		n                  int
		want               []uint64
	}{
		{5, 3, 0, 3, []uint64{5, 8, 11}},
		{5, 3, 4, 1, []uint64{5}},
		{5, 3, 5, 1, []uint64{8}},
		{5, 3, 8, 2, []uint64{11, 14}},
		{5, 3, 9, 2, []uint64{11, 14}},
		{5, 3, 5, 0, nil},
		{5, 3, 5, -1, nil},
		{5, 3, 5, -4, nil},
		{5, 3, 5, math.MinInt, nil},
		// Tick 0 is above none.
		{0, 1, 0, 2, []uint64{1, 2}},
		{0, 7, 0, 2, []uint64{7, 14}},
		// Where the grid ends, there are no more.
		{last - 1, 1, 0, 5, []uint64{last - 1, last}},
		{last - 1, 1, last - 1, 5, []uint64{last}},
		{last - 1, 1, last, 5, nil},
		{last - 6, 3, 0, 9, []uint64{last - 6, last - 3, last}},
		{last - 5, 3, 0, 9, []uint64{last - 5, last - 2}},
		{last, last, 0, 2, []uint64{last}},
		{0, last, 0, 2, []uint64{last}},
		{1, last, 0, 2, []uint64{1}},
		{1, last, 1, 2, nil},
		{0, 1 << 63, 0, math.MaxInt, []uint64{1 << 63}},
		// Without a period there is no grid.
		{9, 0, 0, 5, nil},
		{0, 0, 0, 5, nil},
		{9, 0, 9, math.MaxInt, nil},
		{last, 0, 0, 1, nil},
	} {
		j := job(x.first, x.period, x.first, 0, 0)
		if got := grid.Ahead(j, x.now, x.n); !slices.Equal(got, x.want) {
			t.Errorf("Ahead(%v, %d, %d) = %v, want %v", j, x.now, x.n, got, x.want)
		}
	}
}

// 13.1: 100 at most, and none of a length below 0.
func TestAheadLengths(t *testing.T) {
	for _, n := range lengths {
		want := min(max(n, 0), 100)
		for _, j := range []api.Job{job(0, 1, 0, 0, 0), job(5, 3, 5, 0, 0), job(7, last/102, 7, 0, 0)} {
			if got := len(grid.Ahead(j, 0, n)); got != want {
				t.Errorf("Ahead(%v, 0, %d) has %d, want %d", j, n, got, want)
			}
		}
	}
}

// 13.1: against numbers without a bound, of all that lie near one.
func TestAheadNearBounds(t *testing.T) {
	for _, first := range near {
		for _, period := range near {
			for _, now := range near {
				j := job(first, period, first, 0, 0)
				all := aheadOf(j, now, 100)
				for _, n := range []int{-1, 0, 1, 2, 3, 99, 100, 101, math.MaxInt} {
					want := all[:min(max(n, 0), len(all))]
					if got := grid.Ahead(j, now, n); !slices.Equal(got, want) {
						t.Fatalf("Ahead(%v, %d, %d) = %v, want %v", j, now, n, got, want)
					}
				}
			}
		}
	}
}

// 13.1: the grid's ticks hang on First and Period alone, whether the job is Ok or not.
func TestAheadWhereverTheJobStands(t *testing.T) {
	for _, now := range near {
		want := grid.Ahead(job(5, 3, 5, 0, 0), now, 7)
		for _, due := range near {
			if got := grid.Ahead(job(5, 3, due, 2, 9), now, 7); !slices.Equal(got, want) {
				t.Errorf("Ahead of a job due %d, at %d: %v, want %v", due, now, got, want)
			}
		}
	}
}

// 13.1: what is answered is new memory, its spare room too.
func TestAheadIsNew(t *testing.T) {
	j := job(5, 3, 5, 0, 0)
	one := grid.Ahead(j, 0, 3)
	two := grid.Ahead(j, 0, 3)
	for _, l := range [][]uint64{one[:cap(one)], append(one, 77)} {
		for i := range l {
			l[i] = 99
		}
	}
	for _, l := range [][]uint64{two, grid.Ahead(j, 0, 3)} {
		if !slices.Equal(l, []uint64{5, 8, 11}) {
			t.Errorf("it is %v then", l)
		}
	}
}

// 13.1
func TestOk(t *testing.T) {
	for _, x := range []struct {
		j    api.Job
		want bool
	}{
		{job(5, 3, 5, 0, 0), true},
		{job(5, 3, 8, 0, 0), true},
		{job(5, 3, 5+3*1000, 0, 0), true},
		{job(5, 3, 6, 0, 0), false},
		{job(5, 3, 7, 0, 0), false},
		{job(5, 3, 4, 0, 0), false},
		// Below the first tick whole periods do not count.
		{job(5, 3, 2, 0, 0), false},
		{job(5, 5, 0, 0, 0), false},
		{job(1, 1, 0, 0, 0), false},
		{job(last, last, 0, 0, 0), false},
		{job(8, 1<<63, 1<<63, 0, 0), false},
		{job(1<<63, 1<<63, 0, 0, 0), false},
		{job(0, 1, 0, 0, 0), true},
		{job(0, 1, last, 0, 0), true},
		{job(0, last, last, 0, 0), true},
		{job(1, last, last, 0, 0), false},
		{job(1, last-1, last, 0, 0), true},
		{job(last, 1, last, 0, 0), true},
		// Without a period there is no grid, not even its first tick.
		{api.Job{}, false},
		{job(5, 0, 5, 0, 0), false},
		{job(5, 0, 8, 0, 0), false},
		{job(last, 0, last, 0, 0), false},
	} {
		for _, count := range near {
			x.j.Runs, x.j.Missed = count, last-count
			if got := grid.Ok(x.j); got != x.want {
				t.Errorf("Ok(%v) = %t, want %t", x.j, got, x.want)
			}
		}
	}
}
