package dag

import (
	"testing"
)

// holdPlaces: each pair stands in both lists where it says, the lists have nothing else, and none is empty.
func holdPlaces(t *testing.T, d *Dag) {
	t.Helper()
	for pair, at := range d.pairs {
		behind, waits := d.behind[pair[0]], d.waits[pair[1]]
		if at[0] < 0 || at[0] >= len(behind) || behind[at[0]] != pair[1] {
			t.Fatalf("%v is not at %d behind: %v", pair, at[0], behind)
		}
		if at[1] < 0 || at[1] >= len(waits) || waits[at[1]] != pair[0] {
			t.Fatalf("%v is not at %d of what waits: %v", pair, at[1], waits)
		}
	}
	for _, lists := range []map[int][]int{d.behind, d.waits} {
		all := 0
		for id, l := range lists {
			if all += len(l); len(l) == 0 {
				t.Fatalf("an empty list of %d is kept", id)
			}
		}
		if all != len(d.pairs) {
			t.Fatalf("%d in the lists, but %d pairs", all, len(d.pairs))
		}
	}
}

// 14.1: pairs and lists tell the same, whatever was called.
func TestPlaces(t *testing.T) {
	state := uint64(88172645463325252)
	draw := func(n int) int {
		state ^= state << 13
		state ^= state >> 7
		state ^= state << 17
		return int(state >> 11 % uint64(n))
	}
	d := New()
	for range 20000 {
		switch kind := draw(10); {
		case kind < 6:
			id := 1 + draw(20)
			var preds []int
			for range draw(6) {
				preds = append(preds, 1+draw(id))
			}
			d.Add(id, preds)
		case kind < 9:
			d.Done(1 + draw(20))
		default:
			d.Kill(1 + draw(20))
		}
		holdPlaces(t, d)
	}
}

// 14.1: where nobody waits, nothing is kept, and a call that changes nothing keeps nothing.
func TestNothingIsKept(t *testing.T) {
	d := New()
	empty := func(when string) {
		t.Helper()
		if len(d.pairs)+len(d.behind)+len(d.waits) != 0 {
			t.Fatal(when, d.pairs, d.behind, d.waits)
		}
	}
	for _, id := range []int{-1, 0, 1, 9} {
		d.Done(id)
		d.Kill(id)
		d.Waits(id)
		d.Behind(id)
		d.Add(id, nil)
		d.Add(id, []int{id})
	}
	empty("asked")
	for id := 2; id < 30; id++ {
		d.Add(id, []int{1, id / 2, id - 1})
	}
	for id := 1; id < 30; id++ {
		d.Done(id)
	}
	empty("all done")
	for id := 2; id < 30; id++ {
		d.Add(id, []int{1, id / 2, id - 1})
	}
	d.Kill(5)
	holdPlaces(t, d)
	d.Kill(1)
	empty("all killed")
}
