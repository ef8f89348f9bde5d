package table_test

import (
	"math"
	"slices"
	"testing"

	"verger/api"
	"verger/table"
)

const last = math.MaxUint64

// noID has what is no task of a table that has at most four.
var noID = []int{0, -1, -2, -4, 5, 6, 1000, 1001, 1<<32 + 1, 1<<61 + 1, math.MaxInt32, math.MinInt32, math.MaxInt, math.MinInt, math.MinInt + 1}

// noState has what is no state, among it what would be one by its lowest bits.
var noState = []int{-1, -2, -6, 7, 8, 9, 10, 14, 1<<32 + 2, 1<<61 + 2, math.MaxInt, math.MinInt, math.MinInt + 2}

// goals has for each state those that a task may go to.
var goals = [7][]int{
	api.SFree:    {api.SWaiting, api.SReady, api.SCancelled},
	api.SWaiting: {api.SReady, api.SCancelled},
	api.SReady:   {api.SClaimed, api.SCancelled},
	api.SClaimed: {api.SWaiting, api.SDone, api.SFailed},
}

// roads has for each state how a task comes to it: the first is how it is made.
var roads = [7][]int{
	api.SWaiting:   {api.SWaiting},
	api.SReady:     {api.SReady},
	api.SClaimed:   {api.SReady, api.SClaimed},
	api.SDone:      {api.SReady, api.SClaimed, api.SDone},
	api.SFailed:    {api.SReady, api.SClaimed, api.SFailed},
	api.SCancelled: {api.SCancelled},
}

func may(from, to int) bool {
	return from >= 0 && from < len(goals) && slices.Contains(goals[from], to)
}

func made(t *testing.T, most int) *table.Table {
	t.Helper()
	x, e := table.New(most)
	if x == nil || e != api.OK {
		t.Fatalf("New(%d) = %v, %d", most, x, e)
	}
	return x
}

// put makes a task that must be made, with that id.
func put(t *testing.T, x *table.Table, want, prio int, ops []api.Op, job api.Job, state int) {
	t.Helper()
	if id, e := x.Make(prio, ops, job, state); id != want || e != api.OK {
		t.Fatalf("Make(%d, %v, %v, %d) = %d, %d, want %d", prio, ops, job, state, id, e, want)
	}
}

// lead makes a task and brings it to a state.
func lead(t *testing.T, x *table.Table, want, prio int, job api.Job, state int) {
	t.Helper()
	road := roads[state]
	put(t, x, want, prio, nil, job, road[0])
	for _, s := range road[1:] {
		if e := x.Turn(want, s); e != api.OK {
			t.Fatalf("task %d on the way to %d: error %d", want, state, e)
		}
	}
}

// told holds all that a table tells of its tasks against what it should tell.
func told(t *testing.T, x *table.Table, tasks ...api.Task) {
	t.Helper()
	if all := x.All(); !slices.Equal(all, tasks) {
		t.Errorf("All = %v, want %v", all, tasks)
	}
	if x.Len() != len(tasks) {
		t.Errorf("Len = %d, want %d", x.Len(), len(tasks))
	}
	var counts [7]int
	for i, want := range tasks {
		counts[want.State]++
		if got, ok := x.Get(i + 1); got != want || !ok {
			t.Errorf("Get(%d) = %v, %t, want %v", i+1, got, ok, want)
		}
	}
	for s, n := range counts {
		if x.Count(s) != n {
			t.Errorf("Count(%d) = %d, want %d", s, x.Count(s), n)
		}
	}
}

// has holds a task's job against what it should be.
func has(t *testing.T, x *table.Table, id int, want api.Job) {
	t.Helper()
	if j, ok := x.Job(id); j != want || !ok {
		t.Errorf("Job(%d) = %v, %t, want %v", id, j, ok, want)
	}
}

// 17.1: the bounds of New, and a table that has no tasks.
func TestNew(t *testing.T) {
	for _, n := range []int{0, -1, -2, -999, -1000, 1001, 1002, 4096, 1<<32 + 1, math.MaxInt32, math.MaxInt, math.MinInt, math.MinInt + 1} {
		if x, e := table.New(n); x != nil || e != api.ErrArg {
			t.Errorf("New(%d) = %v, %d", n, x, e)
		}
	}
	for n := 1; n <= 1000; n++ {
		told(t, made(t, n))
	}
}

// 17.1: the chapter's example.
func TestExample(t *testing.T) {
	x := made(t, 4)
	put(t, x, 1, 3, nil, api.Job{}, api.SReady)
	if e := x.Turn(1, api.SDone); e != api.ErrState {
		t.Errorf("Turn = %d", e)
	}
	told(t, x, api.Task{ID: 1, Prio: 3, State: api.SReady})
}

// 17.1: an urgency is 0 to 7, and it is told as it is.
func TestMakePrio(t *testing.T) {
	for _, prio := range []int{-1, -2, -8, 8, 9, 15, 16, 1<<8 + 3, 1<<32 + 3, math.MaxInt, math.MinInt, math.MinInt + 7} {
		x := made(t, 4)
		if id, e := x.Make(prio, nil, api.Job{}, api.SReady); id != 0 || e != api.ErrArg {
			t.Errorf("Make(%d) = %d, %d", prio, id, e)
		}
		told(t, x)
	}
	for prio := range 8 {
		x := made(t, 4)
		put(t, x, 1, prio, nil, api.Job{}, api.SReady)
		told(t, x, api.Task{ID: 1, Prio: prio, State: api.SReady})
	}
}

// 17.1: a body that is not Ok makes no task; one that is, is told as it is.
func TestMakeBody(t *testing.T) {
	nop := api.Op{Kind: api.BNop}
	for _, ops := range [][]api.Op{
		{{}},
		{{Kind: -1}},
		{{Kind: 6}},
		{{Kind: api.BNop, A: 1}},
		{{Kind: api.BSubmit, A: 8}},
		{{Kind: api.BSubmit, A: -1}},
		{{Kind: api.BAfter, A: 1, B: 1000001}},
		{{Kind: api.BCancel}},
		{{Kind: api.BCancel, A: 1001}},
		{{Kind: api.BPanic}, {}},
		append(slices.Repeat([]api.Op{nop}, 15), api.Op{}),
		slices.Repeat([]api.Op{nop}, 17),
		slices.Repeat([]api.Op{nop}, 1000),
	} {
		x := made(t, 4)
		if id, e := x.Make(0, ops, api.Job{}, api.SReady); id != 0 || e != api.ErrArg {
			t.Errorf("Make(%v) = %d, %d", ops, id, e)
		}
		told(t, x)
	}
	x := made(t, 100)
	bodies := [][]api.Op{
		nil,
		{},
		{nop},
		{{Kind: api.BSubmit, A: 7}, {Kind: api.BPanic}},
		{{Kind: api.BAfter, A: 7, B: 1000000}},
		{{Kind: api.BCancel, A: 1000}, {Kind: api.BPanic}, nop},
		slices.Repeat([]api.Op{{Kind: api.BAfter, A: 2, B: 3}}, 16),
	}
	for i, ops := range bodies {
		put(t, x, i+1, 0, ops, api.Job{}, api.SReady)
	}
	for i, ops := range bodies {
		if got := x.Body(i + 1); !slices.Equal(got, ops) {
			t.Errorf("Body(%d) = %v, want %v", i+1, got, ops)
		}
	}
}

// 17.1, 17.2: a task is made in a state to which free may go, and in no other.
func TestMakeState(t *testing.T) {
	for _, s := range append([]int{0, 1, 2, 3, 4, 5, 6}, noState...) {
		x := made(t, 4)
		if may(api.SFree, s) {
			put(t, x, 1, 5, nil, api.Job{}, s)
			told(t, x, api.Task{ID: 1, Prio: 5, State: s})
			continue
		}
		if id, e := x.Make(5, nil, api.Job{}, s); id != 0 || e != api.ErrArg {
			t.Errorf("Make(%d) = %d, %d", s, id, e)
		}
		told(t, x)
	}
}

// 17.1: a job of a Period above 0 must be Ok; of one that has none only Due and Missed are told.
func TestMakeJob(t *testing.T) {
	for _, x := range []struct {
		job api.Job
		ok  bool
	}{
		{api.Job{Period: 1}, true},
		{api.Job{First: 5, Period: 3, Due: 5}, true},
		{api.Job{First: 5, Period: 3, Due: 8}, true},
		{api.Job{First: 5, Period: 3, Due: 5 + 3<<40}, true},
		{api.Job{First: 5, Period: 3, Due: 6}, false},
		{api.Job{First: 5, Period: 3, Due: 7}, false},
		{api.Job{First: 5, Period: 3, Due: 4}, false},
		{api.Job{First: 5, Period: 3, Due: 2}, false},
		{api.Job{First: 5, Period: 3}, false},
		{api.Job{First: 5, Period: last}, false},
		{api.Job{First: 5, Period: last, Due: 5}, true},
		{api.Job{First: 5, Period: last, Due: 4}, false},
		{api.Job{First: last, Period: last, Due: last}, true},
		{api.Job{Period: last, Due: last}, true},
		{api.Job{First: last, Period: 1, Due: 0}, false},
		{api.Job{First: 5, Period: 3, Due: 8, Runs: 7, Missed: 9}, true},
		{api.Job{First: 5, Period: 3, Due: 8, Runs: last, Missed: last}, true},
		{api.Job{First: 5, Period: 3, Due: 9, Runs: 7, Missed: 9}, false},
	} {
		y := made(t, 4)
		if !x.ok {
			if id, e := y.Make(2, nil, x.job, api.SWaiting); id != 0 || e != api.ErrArg {
				t.Errorf("Make(%v) = %d, %d", x.job, id, e)
			}
			told(t, y)
			continue
		}
		put(t, y, 1, 2, nil, x.job, api.SWaiting)
		has(t, y, 1, x.job)
		told(t, y, api.Task{ID: 1, Prio: 2, State: api.SWaiting, Due: x.job.Due, Runs: x.job.Runs, Missed: x.job.Missed})
	}
	for _, job := range []api.Job{
		{},
		{Due: 77},
		{First: 5},
		{First: 5, Due: 4},
		{First: last, Due: last, Runs: last, Missed: last},
		{Runs: 7, Missed: 9},
	} {
		y := made(t, 4)
		put(t, y, 1, 2, nil, job, api.SWaiting)
		if j, ok := y.Job(1); j != (api.Job{}) || ok {
			t.Errorf("Job of %v = %v, %t", job, j, ok)
		}
		told(t, y, api.Task{ID: 1, Prio: 2, State: api.SWaiting, Due: job.Due, Missed: job.Missed})
	}
}

// 17.1: there are as many as New says and no more, whatever becomes of them; which of Make's errors is told first.
func TestMakeMany(t *testing.T) {
	wrong := api.Job{First: 5, Period: 3, Due: 6}
	for _, most := range []int{1, 2, 3, 200, 1000} {
		x := made(t, most)
		var tasks []api.Task
		for id := 1; id <= most; id++ {
			state := goals[api.SFree][id%3]
			if _, e := x.Make(id%8, nil, wrong, state); e != api.ErrArg {
				t.Fatalf("Make of a wrong job with %d of %d = %d", id-1, most, e)
			}
			put(t, x, id, id%8, nil, api.Job{Due: uint64(id)}, state)
			tasks = append(tasks, api.Task{ID: id, Prio: id % 8, State: state, Due: uint64(id)})
		}
		for _, state := range goals[api.SFree] {
			for _, job := range []api.Job{{}, {Period: 1}, wrong} {
				if id, e := x.Make(0, nil, job, state); id != 0 || e != api.ErrMany {
					t.Errorf("Make(%v, %d) of a full one = %d, %d", job, state, id, e)
				}
			}
		}
		for _, job := range []api.Job{{}, wrong} {
			for i, e := range []api.Errno{
				second(x.Make(-1, nil, job, api.SReady)),
				second(x.Make(8, nil, job, api.SReady)),
				second(x.Make(0, []api.Op{{}}, job, api.SReady)),
				second(x.Make(0, nil, job, api.SFree)),
				second(x.Make(0, nil, job, api.SClaimed)),
				second(x.Make(0, nil, job, 7)),
			} {
				if e != api.ErrArg {
					t.Errorf("%d: Make of a full one = %d", i, e)
				}
			}
		}
		told(t, x, tasks...)
		x.Turn(1, api.SCancelled)
		if id, e := x.Make(0, nil, api.Job{}, api.SReady); id != 0 || e != api.ErrMany {
			t.Errorf("Make where one is over = %d, %d", id, e)
		}
	}
}

func second(_ int, e api.Errno) api.Errno {
	return e
}

// 17.1: ids go up by one; a Make that is refused takes none, and what is over keeps its own.
func TestIDs(t *testing.T) {
	x := made(t, 1000)
	for id := 1; id <= 1000; id++ {
		x.Make(9, nil, api.Job{}, api.SReady)
		x.Make(0, []api.Op{{}}, api.Job{}, api.SReady)
		x.Make(0, nil, api.Job{}, api.SDone)
		x.Make(0, nil, api.Job{Period: 5, Due: 4}, api.SReady)
		put(t, x, id, 0, nil, api.Job{}, api.SCancelled)
		if x.Len() != id {
			t.Fatalf("Len = %d, want %d", x.Len(), id)
		}
	}
	if x.Count(api.SCancelled) != 1000 || x.Count(api.SFree) != 0 {
		t.Errorf("%d cancelled, %d free", x.Count(api.SCancelled), x.Count(api.SFree))
	}
}

// 17.1: what is no task is answered so by all calls, also where there is room for it.
func TestNone(t *testing.T) {
	job := api.Job{First: 5, Period: 3, Due: 5}
	for n := range 5 {
		x := made(t, 4)
		var tasks []api.Task
		for id := 1; id <= n; id++ {
			put(t, x, id, 0, []api.Op{{Kind: api.BNop}}, job, api.SReady)
			tasks = append(tasks, api.Task{ID: id, State: api.SReady, Due: 5})
		}
		ids := slices.Clone(noID)
		for id := n + 1; id <= 4; id++ {
			ids = append(ids, id)
		}
		for _, id := range ids {
			if y, ok := x.Get(id); y != (api.Task{}) || ok {
				t.Errorf("Get(%d) of %d = %v, %t", id, n, y, ok)
			}
			if l := x.Body(id); len(l) != 0 {
				t.Errorf("Body(%d) of %d = %v", id, n, l)
			}
			if j, ok := x.Job(id); j != (api.Job{}) || ok {
				t.Errorf("Job(%d) of %d = %v, %t", id, n, j, ok)
			}
			if due, ok := x.Again(id, 9); due != 0 || ok {
				t.Errorf("Again(%d) of %d = %d, %t", id, n, due, ok)
			}
			if e := x.Key(id, 1); e != api.ErrArg {
				t.Errorf("Key(%d) of %d = %d", id, n, e)
			}
			if e := x.Set(id, 1); e != api.ErrArg {
				t.Errorf("Set(%d) of %d = %d", id, n, e)
			}
			for _, s := range append([]int{0, 1, 2, 3, 4, 5, 6}, noState...) {
				if e := x.Turn(id, s); e != api.ErrArg {
					t.Errorf("Turn(%d, %d) of %d = %d", id, s, n, e)
				}
			}
		}
		told(t, x, tasks...)
		for id := 1; id <= n; id++ {
			has(t, x, id, job)
		}
	}
}

// 17.1, 17.2: each state to each number, of one that comes again and of one that does not; what is refused changes nothing.
func TestTurn(t *testing.T) {
	for _, job := range []api.Job{{Due: 8}, {First: 5, Period: 3, Due: 8, Runs: 4, Missed: 2}} {
		for from := api.SWaiting; from <= api.SCancelled; from++ {
			for _, to := range append([]int{0, 1, 2, 3, 4, 5, 6}, noState...) {
				x := made(t, 4)
				lead(t, x, 1, 6, job, from)
				lead(t, x, 2, 6, job, from)
				other, _ := x.Get(1)
				want, _ := x.Get(2)
				e := x.Turn(2, to)
				switch {
				case to < 1 || to > 6:
					if e != api.ErrArg {
						t.Errorf("%d to %d: %d", from, to, e)
					}
				case !may(from, to):
					if e != api.ErrState {
						t.Errorf("%d to %d: %d", from, to, e)
					}
				default:
					if e != api.OK {
						t.Errorf("%d to %d: %d", from, to, e)
					}
					want.State = to
					if job.Period == 0 && (to == api.SDone || to == api.SFailed) {
						want.Runs = 1
					}
				}
				told(t, x, other, want)
			}
		}
	}
}

// 17.2, W2: what is over stays so, whatever is asked.
func TestOverStays(t *testing.T) {
	for _, state := range []int{api.SDone, api.SFailed, api.SCancelled} {
		x := made(t, 4)
		lead(t, x, 1, 1, api.Job{}, state)
		before := x.All()
		for range 3 {
			for s := api.SWaiting; s <= api.SCancelled; s++ {
				if e := x.Turn(1, s); e != api.ErrState {
					t.Errorf("%d to %d: %d", state, s, e)
				}
			}
			x.Again(1, 9)
		}
		told(t, x, before...)
	}
}

// 17.2, W2: what is ready is claimed once; only when it was ready again it is claimed again.
func TestClaimedOncePerRelease(t *testing.T) {
	x := made(t, 1)
	put(t, x, 1, 1, nil, api.Job{Period: 2}, api.SWaiting)
	for range 50 {
		if e := x.Turn(1, api.SClaimed); e != api.ErrState {
			t.Fatalf("claimed while it waits: %d", e)
		}
		if e := x.Turn(1, api.SReady); e != api.OK {
			t.Fatalf("released: %d", e)
		}
		if e := x.Turn(1, api.SClaimed); e != api.OK {
			t.Fatalf("claimed: %d", e)
		}
		for range 3 {
			if e := x.Turn(1, api.SClaimed); e != api.ErrState {
				t.Fatalf("claimed twice: %d", e)
			}
			if e := x.Turn(1, api.SReady); e != api.ErrState {
				t.Fatalf("ready while it is claimed: %d", e)
			}
		}
		if e := x.Turn(1, api.SWaiting); e != api.OK {
			t.Fatalf("waiting again: %d", e)
		}
	}
}

// 17.1: Runs of one that does not come again is how often it was turned from claimed to done or failed: not how often it was claimed, and not what its job says.
func TestRunsOfOneThatDoesNotComeAgain(t *testing.T) {
	for _, job := range []api.Job{{}, {Runs: 7}, {Runs: last, Missed: 3}} {
		for _, end := range []int{api.SDone, api.SFailed} {
			x := made(t, 2)
			put(t, x, 1, 0, nil, job, api.SWaiting)
			for i, s := range []int{api.SReady, api.SClaimed, api.SWaiting, api.SReady, api.SClaimed, api.SWaiting, api.SReady, api.SClaimed} {
				x.Turn(1, s)
				x.Again(1, 3)
				if y, _ := x.Get(1); y.Runs != 0 || y.Missed != job.Missed || y.State != s {
					t.Errorf("turn %d: %v", i, y)
				}
			}
			x.Turn(1, end)
			for range 3 {
				if y, _ := x.Get(1); y.Runs != 1 || y.Missed != job.Missed || y.State != end {
					t.Errorf("at the end: %v", y)
				}
				x.Turn(1, api.SDone)
				x.Turn(1, api.SFailed)
				x.Again(1, 3)
			}
		}
		for _, road := range [][]int{{api.SCancelled}, {api.SReady, api.SCancelled}, {api.SReady, api.SClaimed, api.SWaiting, api.SCancelled}} {
			x := made(t, 2)
			put(t, x, 1, 0, nil, job, api.SWaiting)
			for _, s := range road {
				x.Turn(1, s)
			}
			told(t, x, api.Task{ID: 1, State: api.SCancelled, Missed: job.Missed})
		}
	}
}

// 17.1: Runs of one that comes again is its job's: no Turn counts it.
func TestRunsOfOneThatComesAgain(t *testing.T) {
	for _, end := range []int{api.SDone, api.SFailed} {
		x := made(t, 2)
		put(t, x, 1, 0, nil, api.Job{First: 5, Period: 3, Due: 5, Runs: 40, Missed: 6}, api.SReady)
		x.Turn(1, api.SClaimed)
		x.Turn(1, end)
		told(t, x, api.Task{ID: 1, State: end, Due: 5, Runs: 40, Missed: 6})
		if due, ok := x.Again(1, 12); due != 14 || !ok {
			t.Errorf("Again = %d, %t", due, ok)
		}
		told(t, x, api.Task{ID: 1, State: end, Due: 5, Runs: 41, Missed: 8})
	}
}

// 17.1: Again goes from one tick of a job's grid to another, whatever state the task has; the task's own Due stays.
func TestAgain(t *testing.T) {
	for state := api.SWaiting; state <= api.SCancelled; state++ {
		x := made(t, 4)
		lead(t, x, 1, 4, api.Job{First: 5, Period: 3, Due: 5}, state)
		for i, y := range []struct{ now, due, missed uint64 }{
			{12, 14, 2},
			{12, 17, 2},
			{0, 20, 2},
			{20, 23, 2},
			{22, 26, 2},
			{28, 29, 2},
			{29, 32, 2},
			{35, 38, 3},
			{37, 41, 3},
			{5 + 3*1000, 8 + 3*1000, 991},
		} {
			if due, ok := x.Again(1, y.now); due != y.due || !ok {
				t.Errorf("%d: Again(%d) = %d, %t, want %d", i, y.now, due, ok, y.due)
			}
			has(t, x, 1, api.Job{First: 5, Period: 3, Due: y.due, Runs: uint64(i + 1), Missed: y.missed})
			told(t, x, api.Task{ID: 1, Prio: 4, State: state, Due: 5, Runs: uint64(i + 1), Missed: y.missed})
		}
	}
}

// 17.1: where time has no room for a next tick Again is false: the job's Due stays, its Runs and Missed are turned, as often as it is asked.
func TestAgainEnds(t *testing.T) {
	for i, y := range []struct {
		job         api.Job
		now, missed uint64
	}{
		{api.Job{First: 5, Period: last, Due: 5}, 9, 0},
		{api.Job{First: 5, Period: last, Due: 5}, 0, 0},
		{api.Job{First: 5, Period: last, Due: 5}, last, 0},
		{api.Job{First: last, Period: 1, Due: last}, 0, 0},
		{api.Job{First: last, Period: 1, Due: last}, last, 0},
		{api.Job{First: 0, Period: last, Due: 0}, last, 1},
		{api.Job{First: 5, Period: 1, Due: 5}, last, last - 5},
		{api.Job{First: 5, Period: 4, Due: 9}, last - 1, (last - 9) / 4},
		{api.Job{First: last - 10, Period: 3, Due: last - 7}, last - 1, 2},
	} {
		x := made(t, 1)
		put(t, x, 1, 0, nil, y.job, api.SReady)
		want := y.job
		for range 3 {
			if due, ok := x.Again(1, y.now); due != 0 || ok {
				t.Errorf("%d: Again = %d, %t", i, due, ok)
			}
			want.Runs++
			want.Missed += y.missed
			has(t, x, 1, want)
			told(t, x, api.Task{ID: 1, State: api.SReady, Due: y.job.Due, Runs: want.Runs, Missed: want.Missed})
		}
	}
	x := made(t, 1)
	put(t, x, 1, 0, nil, api.Job{First: 2, Period: last - 2, Due: 2}, api.SReady)
	if due, ok := x.Again(1, 9); due != last || !ok {
		t.Errorf("Again = %d, %t: the last tick there is", due, ok)
	}
}

// 17.1: of one that does not come again Again is false and changes nothing.
func TestAgainOfOneThatDoesNotComeAgain(t *testing.T) {
	for _, job := range []api.Job{{}, {Due: 7}, {First: 5, Due: 8, Missed: 2}} {
		for state := api.SWaiting; state <= api.SCancelled; state++ {
			x := made(t, 2)
			lead(t, x, 1, 3, job, state)
			before := x.All()
			for _, now := range []uint64{0, 7, 12, last} {
				if due, ok := x.Again(1, now); due != 0 || ok {
					t.Errorf("Again of %v = %d, %t", job, due, ok)
				}
			}
			told(t, x, before...)
		}
	}
}

// 17.1: Set and Key change that one thing, and nothing of the job, of any task.
func TestSetAndKey(t *testing.T) {
	job := api.Job{First: 5, Period: 3, Due: 8, Runs: 1, Missed: 2}
	for state := api.SWaiting; state <= api.SCancelled; state++ {
		x := made(t, 4)
		lead(t, x, 1, 1, api.Job{Due: 4}, state)
		lead(t, x, 2, 2, job, state)
		tasks := x.All()
		for i, n := range []uint64{1, 99, 6, 0, last, last - 1, 1 << 63, 14} {
			at := i % 2
			if e := x.Set(at+1, n); e != api.OK {
				t.Errorf("Set = %d", e)
			}
			tasks[at].Due = n
			told(t, x, tasks...)
			if e := x.Key(2-at, n+1); e != api.OK {
				t.Errorf("Key = %d", e)
			}
			tasks[1-at].Key = n + 1
			told(t, x, tasks...)
			has(t, x, 2, job)
		}
		// What was set is no tick of the grid, and Again goes by the job's all the same.
		if due, ok := x.Again(2, 12); due != 14 || !ok {
			t.Errorf("Again = %d, %t", due, ok)
		}
		tasks[1].Runs, tasks[1].Missed = 2, 3
		told(t, x, tasks...)
	}
}

// 17.1: Count goes by the state alone, whatever the urgency; what is no state has none.
func TestCount(t *testing.T) {
	x := made(t, 1000)
	id := 0
	var want [7]int
	for prio := range 8 {
		for state := api.SWaiting; state <= api.SCancelled; state++ {
			for range 1 + (prio+2*state)%4 {
				id++
				lead(t, x, id, prio, api.Job{}, state)
				want[state]++
			}
		}
	}
	for s, n := range want {
		if x.Count(s) != n {
			t.Errorf("Count(%d) = %d, want %d", s, x.Count(s), n)
		}
	}
	for _, s := range noState {
		if n := x.Count(s); n != 0 {
			t.Errorf("Count(%d) = %d", s, n)
		}
	}
	if x.Count(api.SFree) != 0 {
		t.Errorf("%d are free, but a task never is", x.Count(api.SFree))
	}
}

// 17.1: what is handed in is neither changed nor kept, nor is the spare room behind it.
func TestHandedIn(t *testing.T) {
	room := slices.Repeat([]api.Op{{Kind: api.BNop}}, 8)
	ops := room[:3]
	ops[0] = api.Op{Kind: api.BSubmit, A: 3}
	before := slices.Clone(room)
	x := made(t, 4)
	put(t, x, 1, 0, ops, api.Job{}, api.SReady)
	put(t, x, 2, 0, ops[:0], api.Job{}, api.SReady)
	x.Body(1)
	if !slices.Equal(room, before) {
		t.Errorf("%v, but it was %v", room, before)
	}
	for i := range room {
		room[i] = api.Op{Kind: 99}
	}
	if got := x.Body(1); !slices.Equal(got, before[:3]) {
		t.Errorf("Body(1) = %v, want %v", got, before[:3])
	}
	if got := x.Body(2); len(got) != 0 {
		t.Errorf("Body(2) = %v", got)
	}
}

// 17.1: what is answered is new memory, its spare room too.
func TestAnswered(t *testing.T) {
	want := []api.Op{{Kind: api.BSubmit, A: 3}, {Kind: api.BNop}, {Kind: api.BPanic}}
	x := made(t, 4)
	for id := 1; id <= 3; id++ {
		put(t, x, id, 0, want, api.Job{}, api.SReady)
	}
	tasks := x.All()
	for id := 1; id <= 3; id++ {
		l := x.Body(id)
		l = l[:cap(l)]
		for i := range l {
			l[i] = api.Op{Kind: 99}
		}
		all := x.All()
		all = all[:cap(all)]
		for i := range all {
			all[i] = api.Task{ID: 99}
		}
	}
	for id := 1; id <= 3; id++ {
		if got := x.Body(id); !slices.Equal(got, want) {
			t.Errorf("Body(%d) = %v, want %v", id, got, want)
		}
	}
	told(t, x, tasks...)
	old := x.All()
	x.Turn(1, api.SClaimed)
	x.Key(2, 5)
	put(t, x, 4, 0, nil, api.Job{}, api.SReady)
	if !slices.Equal(old, tasks) {
		t.Errorf("an answer was changed: %v, but it was %v", old, tasks)
	}
}

// 17.1: two tables share nothing.
func TestTwo(t *testing.T) {
	x, y := made(t, 2), made(t, 2)
	put(t, x, 1, 1, nil, api.Job{Period: 1}, api.SReady)
	told(t, y)
	put(t, y, 1, 2, nil, api.Job{Period: 2}, api.SWaiting)
	x.Turn(1, api.SClaimed)
	x.Key(1, 7)
	x.Again(1, 0)
	x.Set(1, 4)
	told(t, x, api.Task{ID: 1, Prio: 1, State: api.SClaimed, Due: 4, Key: 7, Runs: 1})
	told(t, y, api.Task{ID: 1, Prio: 2, State: api.SWaiting})
	has(t, y, 1, api.Job{Period: 2})
}

// 17.3, W10: any numbers are answered.
func TestNoPanic(t *testing.T) {
	defer func() {
		if r := recover(); r != nil {
			t.Fatal(r)
		}
	}()
	numbers := append([]int{1, 2, 3, 4, 6, 999}, append(noID, noState...)...)
	ticks := []uint64{0, 1, 5, 1<<63 - 1, 1 << 63, last - 1, last}
	for _, most := range numbers {
		x, e := table.New(most)
		if e != api.OK {
			continue
		}
		for _, first := range ticks {
			for _, period := range ticks {
				for _, due := range ticks {
					x.Make(int(first%9), []api.Op{{Kind: int(due % 7), A: int(period)}}, api.Job{First: first, Period: period, Due: due, Runs: last, Missed: last}, int(due%8))
					x.Make(int(first%8), nil, api.Job{First: first, Period: period, Due: due, Runs: last, Missed: last}, 1+int(due%2))
				}
			}
		}
		for _, n := range numbers {
			x.Make(n, nil, api.Job{}, n)
			x.Get(n)
			x.Body(n)
			x.Job(n)
			x.Count(n)
			for _, s := range numbers {
				x.Turn(n, s)
			}
			for _, at := range ticks {
				x.Key(n, at)
				x.Set(n, at)
				x.Again(n, at)
			}
		}
		x.All()
		x.Len()
	}
}
