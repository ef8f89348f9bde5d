package credit

import "testing"

// 15.1, Ways: both counts are words of the memory, and it has no more than these.
func TestCountsAreWords(t *testing.T) {
	c, _ := New(3)
	if c.memory.Len() != counts {
		t.Errorf("%d words, want %d", c.memory.Len(), counts)
	}
	for i, x := range []struct {
		take      bool
		out, most uint64
	}{
		{false, 0, 0},
		{true, 1, 1},
		{true, 2, 2},
		{false, 1, 2},
		{false, 0, 2},
		{false, 0, 2},
		{true, 1, 2},
		{true, 2, 2},
		{true, 3, 3},
		{true, 3, 3},
	} {
		if x.take {
			c.Take()
		} else {
			c.Give()
		}
		if c.memory.Load(out) != x.out || c.memory.Load(most) != x.most {
			t.Errorf("call %d: words %d, %d, want %d, %d", i, c.memory.Load(out), c.memory.Load(most), x.out, x.most)
		}
	}
	// What the words are is what is told, whoever wrote them.
	c.memory.Store(out, 2)
	c.memory.Store(most, 1)
	if c.Out() != 2 || c.Free() != 1 || c.Most() != 1 {
		t.Errorf("Out %d, Free %d, Most %d", c.Out(), c.Free(), c.Most())
	}
}
