package table

import (
	"testing"

	"verger/api"
)

// holdCounts: the counts by state and urgency are those of the tasks, and there is none beside them.
func holdCounts(t *testing.T, x *Table) {
	t.Helper()
	want := map[[2]int]int{}
	for _, y := range x.All() {
		want[[2]int{y.State, y.Prio}]++
	}
	for place, n := range x.counts {
		if n != want[place] {
			t.Fatalf("%v: %d, want %d", place, n, want[place])
		}
	}
	for place, n := range want {
		if x.counts[place] != n {
			t.Fatalf("%v: %d, want %d", place, x.counts[place], n)
		}
	}
}

// 17.1, Ways: behind every call, right or wrong, each state and urgency has its count.
func TestCountsByStateAndUrgency(t *testing.T) {
	state := uint64(88172645463325252)
	draw := func(n int) int {
		state ^= state << 13
		state ^= state >> 7
		state ^= state << 17
		return int(state >> 11 % uint64(n))
	}
	x, _ := New(40)
	for range 4000 {
		if draw(20) == 0 {
			x.Make(draw(10)-1, nil, api.Job{Period: uint64(draw(2)), Due: uint64(draw(2))}, draw(8))
		} else {
			x.Turn(draw(42), draw(8))
		}
		holdCounts(t, x)
	}
	if x.Len() != 40 {
		t.Errorf("%d tasks, want 40", x.Len())
	}
}

// 17.1, Ways: what is counted is what is told.
func TestCountSumsUrgencies(t *testing.T) {
	x, _ := New(4)
	for prio := range api.MaxPrio + 1 {
		x.counts[[2]int{api.SReady, prio}] = 1 << prio
		x.counts[[2]int{api.SDone, prio}] = 1
	}
	if x.Count(api.SReady) != 255 || x.Count(api.SDone) != 8 || x.Count(api.SFailed) != 0 {
		t.Errorf("%d, %d, %d", x.Count(api.SReady), x.Count(api.SDone), x.Count(api.SFailed))
	}
}
