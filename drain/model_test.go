package drain_test

import (
	"fmt"
	"slices"
	"testing"

	"verger/api"
	"verger/core"
	"verger/drain"
	"verger/exec"
)

// plainLeft asks each ID that a task can have.
func plainLeft(m *exec.Machine) []int {
	var l []int
	for id := 1; id <= api.MaxTasks; id++ {
		switch m.Core().Status(id) {
		case api.SWaiting, api.SReady, api.SClaimed:
			l = append(l, id)
		}
	}
	return l
}

// inPhase is how many workers are of that phase.
func inPhase(m *exec.Machine, phase int) int {
	n := 0
	for by := range m.Core().Conf().Threads {
		if w, _ := m.Worker(by); w.Phase == phase {
			n++
		}
	}
	return n
}

// claimed is which tasks are claimed, rising.
func claimed(m *exec.Machine) []int {
	return slices.DeleteFunc(plainLeft(m), func(id int) bool { return m.Core().Status(id) != api.SClaimed })
}

// plainClose is a Close as the chapter tells it: the rounds are picks of each worker in order, and what is over is asked of each task.
func plainClose(m *exec.Machine, draw uint64) (api.End, bool) {
	end := api.End{Gone: m.Core().Shutdown()}
	threads := m.Core().Conf().Threads
	for len(plainLeft(m)) > 0 || inPhase(m, api.PIdle) < threads {
		if end.Rounds == most {
			return api.End{}, false
		}
		for by := range threads {
			m.Pick(uint64(by), draw)
		}
		end.Rounds++
	}
	for id := 1; id <= api.MaxTasks; id++ {
		switch m.Core().Status(id) {
		case api.SDone:
			end.Done++
		case api.SFailed:
			end.Failed++
		case api.SCancelled:
			end.Cancelled++
		}
	}
	return end, true
}

// plainCheck knows that a core's account of itself fits together, whatever is done at it; so what is left to ask is who runs.
func plainCheck(m *exec.Machine) api.Errno {
	if inPhase(m, api.PRun) > len(claimed(m)) {
		return api.ErrForm
	}
	return api.OK
}

// asked holds what can be asked of a machine at any moment.
func asked(t *testing.T, m *exec.Machine, row []int) {
	t.Helper()
	if left := drain.Left(m); !slices.Equal(left, plainLeft(m)) {
		t.Fatalf("%v: Left %v, want %v", row, left, plainLeft(m))
	}
	if fault := drain.Check(m); fault != plainCheck(m) {
		t.Fatalf("%v: Check %d, want %d", row, fault, plainCheck(m))
	}
}

// last is the ID of the last task.
func last(c *core.Core) int {
	return len(c.State().Tasks)
}

// calls is what can be done at a machine, of whatever number.
func calls() []func(m *exec.Machine, c *core.Core) {
	return []func(m *exec.Machine, c *core.Core){
		func(m *exec.Machine, c *core.Core) { c.Submit(0, 3, []api.Op{{Kind: api.BSubmit, A: 1}}, nil) },
		func(m *exec.Machine, c *core.Core) { c.Submit(1, 0, []api.Op{panics}, nil) },
		func(m *exec.Machine, c *core.Core) { c.Submit(0, 1, nil, []int{last(c)}) },
		func(m *exec.Machine, c *core.Core) { c.After(1, 2, nil, 2) },
		func(m *exec.Machine, c *core.Core) { c.Every(0, 0, nil, 0, 1) },
		func(m *exec.Machine, c *core.Core) { m.Pick(0, 1) },
		func(m *exec.Machine, c *core.Core) { picks(m, 1, 1, 1) },
		func(m *exec.Machine, c *core.Core) { m.Rest(3, 5) },
		func(m *exec.Machine, c *core.Core) { c.Advance(0, 2) },
		func(m *exec.Machine, c *core.Core) { c.Cancel(last(c)) },
		func(m *exec.Machine, c *core.Core) { c.Shutdown() },
		func(m *exec.Machine, c *core.Core) { claim(c, 1) },
		func(m *exec.Machine, c *core.Core) { c.Finish(1, last(c), true) },
		func(m *exec.Machine, c *core.Core) { c.Finish(0, 1, false) },
	}
}

// claim is a claim by one who is no worker.
func claim(c *core.Core, draw uint64) {
	if e, ok := c.Look(0, draw); ok {
		c.Claim(0, e)
	}
}

// finishOthers has all over that is claimed, and that no worker would ever finish.
func finishOthers(m *exec.Machine) {
	for _, id := range claimed(m) {
		isRun := false
		for by := range m.Core().Conf().Threads {
			w, _ := m.Worker(by)
			isRun = isRun || w.Phase == api.PRun && w.E.ID == id
		}
		if !isRun {
			m.Core().Finish(0, id, true)
		}
	}
}

// played is a machine at which that row of calls was done, one after the other.
func played(t *testing.T, conf api.Conf, row []int, ask func(m *exec.Machine)) *exec.Machine {
	t.Helper()
	m, all := made(t, conf), calls()
	for _, n := range row {
		all[n%len(all)](m, m.Core())
		ask(m)
	}
	return m
}

// closes holds a Close behind that row of calls against what the chapter says.
func closes(t *testing.T, conf api.Conf, row []int, draw uint64) {
	t.Helper()
	none := func(*exec.Machine) {}
	m, twin := played(t, conf, row, none), played(t, conf, row, none)
	finishOthers(m)
	finishOthers(twin)
	asked(t, m, row)
	end, ok := drain.Close(m, draw)
	want, right := plainClose(twin, draw)
	if fmt.Sprint(end, ok) != fmt.Sprint(want, right) || picture(m) != picture(twin) {
		t.Fatalf("%v: %+v, %t, want %+v, %t", row, end, ok, want, right)
	}
	nothingLeft(t, m)
}

// 23.1: each row of four calls, and a Close behind it.
func TestEveryShortRow(t *testing.T) {
	conf := api.Conf{Threads: 2, K: 1, Credits: 3}
	n := len(calls())
	for i := range n * n * n * n {
		row := []int{i % n, i / n % n, i / n / n % n, i / n / n / n}
		m := played(t, conf, row, func(*exec.Machine) {})
		asked(t, m, row)
		closes(t, conf, row, uint64(i))
	}
}

// 23.1: long drawn rows, of all numbers of threads, and a Close behind each.
func TestLongRows(t *testing.T) {
	s := source(20261119)
	for range 150 {
		conf := s.conf()
		row := make([]int, 60)
		for i := range row {
			row[i] = s.draw(len(calls()))
		}
		played(t, conf, row, func(m *exec.Machine) { asked(t, m, row) })
		closes(t, conf, row, s.word())
	}
}

// 23.1, 23.2: whatever is done at a machine, it is told and closed as the chapter says.
func FuzzRows(f *testing.F) {
	f.Add([]byte{0, 5, 5, 5, 12, 2, 8}, 2, uint64(1))
	f.Add([]byte{4, 7, 7, 3, 10, 11}, 8, uint64(1)<<63)
	f.Fuzz(func(t *testing.T, b []byte, threads int, draw uint64) {
		conf := api.Conf{Threads: 2 + int(uint(threads)%7), K: int(draw % 5), Credits: 1 + len(b)%64}
		var row []int
		for _, n := range b[:min(len(b), 300)] {
			row = append(row, int(n))
		}
		played(t, conf, row, func(m *exec.Machine) { asked(t, m, row) })
		closes(t, conf, row, draw)
	})
}
