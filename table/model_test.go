package table_test

import (
	"math"
	"slices"
	"testing"

	"verger/api"
	"verger/table"
)

// record is a task told as plainly as may be: how it was made, and all that was done to it since. Nothing is worked out ahead of being asked.
type record struct {
	prio   int
	ops    []api.Op
	job    api.Job
	states []int
	keys   []uint64
	dues   []uint64
	nows   []uint64
}

func (r *record) state() int {
	return r.states[len(r.states)-1]
}

// after goes from tick to tick.
func after(j api.Job, now uint64) (api.Job, bool) {
	j.Runs++
	for at := j.Due; at <= math.MaxUint64-j.Period; {
		if at += j.Period; at > now {
			j.Due = at
			return j, true
		}
		j.Missed++
	}
	return j, false
}

// now is the job as it is behind all Agains, and what the last one of them answered.
func (r *record) now() (j api.Job, ok bool) {
	j = r.job
	for _, at := range r.nows {
		j, ok = after(j, at)
	}
	return j, ok
}

// runs is how often a task that does not come again was turned from claimed to done or failed.
func (r *record) runs() uint64 {
	n := uint64(0)
	for i := 1; i < len(r.states); i++ {
		if r.states[i-1] == api.SClaimed && (r.states[i] == api.SDone || r.states[i] == api.SFailed) {
			n++
		}
	}
	return n
}

func (r *record) task(id int) api.Task {
	x := api.Task{ID: id, Prio: r.prio, State: r.state(), Due: r.dues[len(r.dues)-1], Key: r.keys[len(r.keys)-1]}
	j, _ := r.now()
	x.Runs, x.Missed = j.Runs, j.Missed
	if r.job.Period == 0 {
		x.Runs = r.runs()
	}
	return x
}

// model is a table, its tasks by their ids.
type model struct {
	most  int
	tasks []*record
}

func (m *model) find(id int) *record {
	if id < 1 || id > len(m.tasks) {
		return nil
	}
	return m.tasks[id-1]
}

// fits tells whether an op is one of those that the rows draw and that may be.
func fits(o api.Op) bool {
	return slices.Contains([]api.Op{{Kind: api.BNop}, {Kind: api.BSubmit, A: 3}, {Kind: api.BAfter, A: 7, B: 1000000}, {Kind: api.BPanic}}, o)
}

func (m *model) make(prio int, ops []api.Op, job api.Job, state int) (int, api.Errno) {
	if prio < 0 || prio > 7 || len(ops) > 16 || !may(api.SFree, state) {
		return 0, api.ErrArg
	}
	for _, o := range ops {
		if !fits(o) {
			return 0, api.ErrArg
		}
	}
	if len(m.tasks) == m.most {
		return 0, api.ErrMany
	}
	if job.Period > 0 && (job.Due < job.First || (job.Due-job.First)%job.Period != 0) {
		return 0, api.ErrArg
	}
	m.tasks = append(m.tasks, &record{prio: prio, ops: slices.Clone(ops), job: job, states: []int{state}, keys: []uint64{0}, dues: []uint64{job.Due}})
	return len(m.tasks), api.OK
}

func (m *model) turn(id, state int) api.Errno {
	r := m.find(id)
	switch {
	case r == nil || state < 1 || state > 6:
		return api.ErrArg
	case !may(r.state(), state):
		return api.ErrState
	}
	r.states = append(r.states, state)
	return api.OK
}

func (m *model) again(id int, now uint64) (uint64, bool) {
	r := m.find(id)
	if r == nil || r.job.Period == 0 {
		return 0, false
	}
	r.nows = append(r.nows, now)
	j, ok := r.now()
	if !ok {
		return 0, false
	}
	return j.Due, true
}

// pair is a table and its model: each call is given to both, and all their answers are held against each other.
type pair struct {
	t *testing.T
	x *table.Table
	m *model
}

func newPair(t *testing.T, most int) *pair {
	t.Helper()
	return &pair{t: t, x: made(t, most), m: &model{most: most}}
}

func (p *pair) make(prio int, ops []api.Op, job api.Job, state int) {
	p.t.Helper()
	id, e := p.x.Make(prio, ops, job, state)
	if want, f := p.m.make(prio, ops, job, state); id != want || e != f {
		p.t.Fatalf("Make(%d, %v, %v, %d) = %d, %d, want %d, %d", prio, ops, job, state, id, e, want, f)
	}
}

func (p *pair) turn(id, state int) {
	p.t.Helper()
	e := p.x.Turn(id, state)
	if f := p.m.turn(id, state); e != f {
		p.t.Fatalf("Turn(%d, %d) = %d, want %d", id, state, e, f)
	}
}

func (p *pair) again(id int, now uint64) {
	p.t.Helper()
	due, ok := p.x.Again(id, now)
	if want, f := p.m.again(id, now); due != want || ok != f {
		p.t.Fatalf("Again(%d, %d) = %d, %t, want %d, %t", id, now, due, ok, want, f)
	}
}

func (p *pair) key(id int, key uint64) {
	p.t.Helper()
	p.write("Key", id, p.x.Key(id, key))
	if r := p.m.find(id); r != nil {
		r.keys = append(r.keys, key)
	}
}

func (p *pair) set(id int, due uint64) {
	p.t.Helper()
	p.write("Set", id, p.x.Set(id, due))
	if r := p.m.find(id); r != nil {
		r.dues = append(r.dues, due)
	}
}

// write holds what a call that is given an id and a number answers.
func (p *pair) write(call string, id int, e api.Errno) {
	p.t.Helper()
	want := api.OK
	if p.m.find(id) == nil {
		want = api.ErrArg
	}
	if e != want {
		p.t.Fatalf("%s(%d) = %d, want %d", call, id, e, want)
	}
}

// same holds all that can be asked.
func (p *pair) same() {
	p.t.Helper()
	var tasks []api.Task
	for i, r := range p.m.tasks {
		tasks = append(tasks, r.task(i+1))
		if l := p.x.Body(i + 1); !slices.Equal(l, r.ops) {
			p.t.Fatalf("Body(%d) = %v, want %v", i+1, l, r.ops)
		}
		want, _ := r.now()
		if r.job.Period == 0 {
			want = api.Job{}
		}
		if j, ok := p.x.Job(i + 1); j != want || ok != (r.job.Period > 0) {
			p.t.Fatalf("Job(%d) = %v, %t, want %v", i+1, j, ok, want)
		}
	}
	told(p.t, p.x, tasks...)
	if p.t.Failed() {
		p.t.FailNow()
	}
}

// once: each is claimed at most once for each time that it is ready, and nothing behind its being over.
func (p *pair) once() {
	p.t.Helper()
	for id, r := range p.m.tasks {
		ready, claimed := 0, 0
		for i, s := range r.states {
			switch s {
			case api.SReady:
				ready++
			case api.SClaimed:
				claimed++
			case api.SDone, api.SFailed, api.SCancelled:
				if i != len(r.states)-1 {
					p.t.Fatalf("task %d went on behind its end: %v", id+1, r.states)
				}
			}
			if claimed > ready {
				p.t.Fatalf("task %d was claimed ahead of its release: %v", id+1, r.states)
			}
		}
	}
}

// 17.1, 17.2, W2: every row of five Turns and Agains, of a task made in each state, that comes again or not.
func TestEveryRow(t *testing.T) {
	const length, calls = 5, 8
	rows := 1
	for range length {
		rows *= calls
	}
	for _, job := range []api.Job{{Due: 4}, {First: 4, Period: 3, Due: 4}} {
		for _, state := range goals[api.SFree] {
			for row := range rows {
				p := newPair(t, 1)
				p.make(3, nil, job, state)
				for i := range length {
					if call := row % calls; call == calls-1 {
						p.again(1, uint64(3*i))
					} else {
						p.turn(1, call)
					}
					row /= calls
				}
				p.once()
				p.same()
			}
		}
	}
}

// play gives a pair one call, as the draws say.
func play(p *pair, draw func(int) int) {
	id := draw(p.m.most + 2)
	switch draw(12) {
	case 0, 1, 2:
		p.make(drawMake(draw))
	case 3:
		p.key(id, uint64(draw(50)))
	case 4:
		p.set(id, uint64(draw(50)))
	case 5, 6:
		p.again(id, drawNow(p, id, draw))
	default:
		p.turn(id, draw(9)-1)
	}
}

// drawMake is what Make is given: most often what may be.
func drawMake(draw func(int) int) (int, []api.Op, api.Job, int) {
	kinds := []api.Op{{Kind: api.BNop}, {Kind: api.BSubmit, A: 3}, {Kind: api.BAfter, A: 7, B: 1000000}, {Kind: api.BPanic}, {Kind: api.BSubmit, A: 8}, {}}
	var ops []api.Op
	for range draw(4) {
		ops = append(ops, kinds[draw(4)+draw(25)/24*2])
	}
	if draw(20) == 0 {
		ops = slices.Repeat(kinds[:1], 15+draw(4))
	}
	firsts := []uint64{0, 5, 1 << 40, math.MaxUint64 - 20}
	job := api.Job{First: firsts[draw(4)], Period: uint64(draw(4)), Runs: uint64(draw(3)), Missed: uint64(draw(3))}
	job.Due = job.First + job.Period*uint64(draw(4)) + uint64(draw(9)/8)
	return draw(40)*9/40 - draw(20)/19, ops, job, []int{1, 2, 6, 1, 2, 6, 1, 2, 6, 0, 3, 4, 5, 7, -1}[draw(15)]
}

// drawNow is a tick not far from the one at which a task is due.
func drawNow(p *pair, id int, draw func(int) int) uint64 {
	due := uint64(draw(30))
	if r := p.m.find(id); r != nil {
		j, _ := r.now()
		due = j.Due
	}
	if draw(2) == 0 {
		return due - min(due, uint64(draw(8)))
	}
	return due + min(math.MaxUint64-due, uint64(draw(12)))
}

// 17.1, 17.2, 17.3, W2: long rows of calls, right and wrong.
func TestLongRows(t *testing.T) {
	for seed := uint64(1); seed <= 60; seed++ {
		at := seed
		draw := func(n int) int {
			at = at*6364136223846793005 + 1442695040888963407
			return int(at >> 33 % uint64(n))
		}
		p := newPair(t, 1+draw(12))
		for range 600 {
			play(p, draw)
			p.same()
		}
		p.once()
	}
}

// 17.1, 17.2, 17.3, W10: rows of calls that are made of any bytes.
func FuzzTable(f *testing.F) {
	f.Add(1, []byte{})
	f.Add(4, []byte{1, 0, 2, 3, 4, 5, 6, 7, 8, 9, 200, 100, 50, 25})
	f.Add(9, []byte("what is ready is claimed once"))
	f.Fuzz(func(t *testing.T, most int, row []byte) {
		if most < 1 || most > 1000 {
			if x, e := table.New(most); x != nil || e != api.ErrArg {
				t.Fatalf("New(%d) = %v, %d", most, x, e)
			}
			return
		}
		row = row[:min(len(row), 600)]
		draw := func(n int) int {
			if len(row) == 0 {
				return 0
			}
			b := int(row[0])
			row = row[1:]
			return b % n
		}
		p := newPair(t, min(most, 12))
		for len(row) > 0 {
			play(p, draw)
			p.same()
		}
		p.once()
	})
}
