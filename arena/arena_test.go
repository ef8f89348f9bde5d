package arena_test

import (
	"math"
	"testing"

	"verger/api"
	"verger/arena"
	"verger/word"
)

const most = math.MaxUint64

// noID has what is no id of an arena of three.
var noID = []int{0, -1, -2, -3, 4, 5, 1001, 1<<32 + 1, 1<<61 + 1, math.MaxInt32, math.MinInt32, math.MaxInt, math.MinInt}

// noState has what is no state, among it what would be one by its lowest bits.
var noState = []int{-1, -6, 7, 8, 9, 10, 14, 1<<32 + 2, 1<<61 + 2, math.MaxInt, math.MinInt, math.MinInt + 2}

// roads has for each state the states on the way to it from free.
var roads = [7][]int{
	api.SFree:      {},
	api.SWaiting:   {api.SWaiting},
	api.SReady:     {api.SReady},
	api.SClaimed:   {api.SReady, api.SClaimed},
	api.SDone:      {api.SReady, api.SClaimed, api.SDone},
	api.SFailed:    {api.SReady, api.SClaimed, api.SFailed},
	api.SCancelled: {api.SCancelled},
}

// goals has for each state those that it may be turned to.
var goals = [7][]int{
	api.SFree:    {api.SWaiting, api.SReady, api.SCancelled},
	api.SWaiting: {api.SReady, api.SCancelled},
	api.SReady:   {api.SClaimed, api.SCancelled},
	api.SClaimed: {api.SWaiting, api.SDone, api.SFailed},
}

func may(from, to int) bool {
	if from < 0 || from >= len(goals) {
		return false
	}
	for _, goal := range goals[from] {
		if goal == to {
			return true
		}
	}
	return false
}

func over(state int) bool {
	return state == api.SDone || state == api.SFailed || state == api.SCancelled
}

func pack(state, version int) uint64 {
	return uint64(version)*8 + uint64(state)
}

func made(t *testing.T, n int) *arena.Arena {
	t.Helper()
	a, e := arena.New(n)
	if e != api.OK || a == nil {
		t.Fatalf("New(%d) = %v, %d", n, a, e)
	}
	return a
}

// lead brings id to a state by Turns, and answers its word.
func lead(t *testing.T, a *arena.Arena, id, state int) uint64 {
	t.Helper()
	for _, s := range roads[state] {
		if _, e := a.Turn(id, a.Word(id), s); e != api.OK {
			t.Fatalf("id %d on the way to %d: error %d", id, state, e)
		}
	}
	return a.Word(id)
}

// told holds an arena's words, states and counts against the words that it should have.
func told(t *testing.T, a *arena.Arena, words ...uint64) {
	t.Helper()
	if a.Len() != len(words) {
		t.Errorf("Len = %d, want %d", a.Len(), len(words))
	}
	counts := [7]int{}
	for i, w := range words {
		counts[w%8]++
		if a.Word(i+1) != w || a.State(i+1) != int(w%8) {
			t.Errorf("id %d: word %d, state %d, want %d, %d", i+1, a.Word(i+1), a.State(i+1), w, w%8)
		}
	}
	for s, n := range counts {
		if a.Count(s) != n {
			t.Errorf("Count(%d) = %d, want %d", s, a.Count(s), n)
		}
	}
}

// 4.1: the bounds of New, and an arena where all is free.
func TestNew(t *testing.T) {
	for _, n := range []int{0, -1, -1000, 1001, 1002, 4096, 4097, 1<<32 + 1, math.MaxInt, math.MinInt} {
		if a, e := arena.New(n); a != nil || e != api.ErrArg {
			t.Errorf("New(%d) = %v, %d", n, a, e)
		}
	}
	for _, n := range []int{1, 2, 3, 200, 999, 1000} {
		told(t, made(t, n), make([]uint64, n)...)
	}
}

// 4.1: the chapter's example.
func TestExample(t *testing.T) {
	a := made(t, 3)
	if id, e := a.Alloc(api.SReady); id != 1 || e != api.OK {
		t.Fatalf("Alloc = %d, %d", id, e)
	}
	old := a.Word(1)
	w, e := a.Turn(1, old, api.SClaimed)
	if w != word.Pack(api.SClaimed, 2) || w != a.Word(1) || e != api.OK {
		t.Errorf("Turn = %d, %d", w, e)
	}
	if v, e := a.Turn(1, old, api.SClaimed); v != 0 || e != api.ErrLate {
		t.Errorf("Turn again = %d, %d", v, e)
	}
	told(t, a, w, 0, 0)
}

// 4.1: Alloc of each state, that is one or none.
func TestAllocStates(t *testing.T) {
	for _, s := range append([]int{0, 1, 2, 3, 4, 5, 6}, noState...) {
		a := made(t, 2)
		id, e := a.Alloc(s)
		if !may(api.SFree, s) {
			if id != 0 || e != api.ErrArg {
				t.Errorf("Alloc(%d) = %d, %d", s, id, e)
			}
			told(t, a, 0, 0)
			continue
		}
		if id != 1 || e != api.OK {
			t.Errorf("Alloc(%d) = %d, %d", s, id, e)
		}
		told(t, a, pack(s, 1), 0)
	}
}

// 4.1: ErrMany where none is free; ErrArg stands ahead of it.
func TestAllocMany(t *testing.T) {
	for _, n := range []int{1, 3, 1000} {
		a := made(t, n)
		words := make([]uint64, n)
		for i := range n {
			if id, e := a.Alloc(api.SWaiting); id != i+1 || e != api.OK {
				t.Fatalf("Alloc %d = %d, %d", i, id, e)
			}
			words[i] = pack(api.SWaiting, 1)
		}
		for _, s := range []int{api.SWaiting, api.SReady, api.SCancelled} {
			if id, e := a.Alloc(s); id != 0 || e != api.ErrMany {
				t.Errorf("Alloc(%d) of a full one = %d, %d", s, id, e)
			}
		}
		for _, s := range append([]int{0, 3, 4, 5}, noState...) {
			if id, e := a.Alloc(s); id != 0 || e != api.ErrArg {
				t.Errorf("Alloc(%d) of a full one = %d, %d", s, id, e)
			}
		}
		told(t, a, words...)
	}
}

// 4.1: the least id that is free, in whatever order they became so; what is over is not free yet.
func TestAllocLeast(t *testing.T) {
	a := made(t, 4)
	for range 4 {
		a.Alloc(api.SCancelled)
	}
	if id, e := a.Alloc(api.SReady); id != 0 || e != api.ErrMany {
		t.Errorf("Alloc where all are over = %d, %d", id, e)
	}
	for _, id := range []int{4, 2, 3} {
		if e := a.Free(id); e != api.OK {
			t.Fatalf("Free(%d) = %d", id, e)
		}
	}
	told(t, a, pack(6, 1), pack(0, 2), pack(0, 2), pack(0, 2))
	for _, want := range []int{2, 3} {
		if id, e := a.Alloc(api.SReady); id != want || e != api.OK {
			t.Errorf("Alloc = %d, %d, want %d", id, e, want)
		}
	}
	a.Free(1)
	for _, want := range []int{1, 4} {
		if id, e := a.Alloc(api.SWaiting); id != want || e != api.OK {
			t.Errorf("Alloc = %d, %d, want %d", id, e, want)
		}
	}
	told(t, a, pack(1, 3), pack(2, 3), pack(2, 3), pack(1, 3))
}

// 4.1: each state to each number.
func TestTurnStates(t *testing.T) {
	for from := range 7 {
		for _, to := range append([]int{0, 1, 2, 3, 4, 5, 6}, noState...) {
			a := made(t, 3)
			old := lead(t, a, 2, from)
			w, e := a.Turn(2, old, to)
			switch {
			case to < 1 || to > 6:
				if w != 0 || e != api.ErrArg {
					t.Errorf("%d to %d: %d, %d", from, to, w, e)
				}
			case !may(from, to):
				if w != 0 || e != api.ErrState {
					t.Errorf("%d to %d: %d, %d", from, to, w, e)
				}
			default:
				want := old - uint64(from) + 8 + uint64(to)
				if w != want || e != api.OK {
					t.Errorf("%d to %d: %d, %d, want %d", from, to, w, e, want)
				}
				old = want
			}
			told(t, a, 0, old, 0)
		}
	}
}

// 4.1: which of Turn's errors comes first.
func TestTurnErrors(t *testing.T) {
	a := made(t, 3)
	now := lead(t, a, 2, api.SClaimed)
	for i, x := range []struct {
		id    int
		old   uint64
		state int
		e     api.Errno
	}{
		{0, now, api.SDone, api.ErrArg},
		{4, now, api.SDone, api.ErrArg},
		{4, 0, api.SDone, api.ErrArg},
		{0, 0, api.SReady, api.ErrArg},
		{4, 0, api.SReady, api.ErrArg},
		{2, now, api.SFree, api.ErrArg},
		{2, now, 7, api.ErrArg},
		{2, now, -1, api.ErrArg},
		{2, now, api.SDone + 8, api.ErrArg},
		{2, 7, 7, api.ErrArg},
		{2, most, api.SFree, api.ErrArg},
		{2, pack(api.SDone, 3), api.SFree, api.ErrArg},
		{2, now, api.SClaimed, api.ErrState},
		{2, now, api.SReady, api.ErrState},
		{2, now, api.SCancelled, api.ErrState},
		{2, pack(7, 2), api.SDone, api.ErrState},
		{2, most, api.SDone, api.ErrState},
		{2, pack(api.SReady, 2), api.SDone, api.ErrState},
		{2, pack(api.SDone, 2), api.SDone, api.ErrState},
		{2, pack(api.SClaimed, 1), api.SDone, api.ErrLate},
		{2, pack(api.SClaimed, 3), api.SDone, api.ErrLate},
		{2, pack(api.SReady, 1), api.SClaimed, api.ErrLate},
		{2, pack(api.SReady, 2), api.SClaimed, api.ErrLate},
		{2, now | 1<<63, api.SDone, api.ErrLate},
		{2, 0, api.SReady, api.ErrLate},
		{1, now, api.SDone, api.ErrLate},
		{3, now, api.SDone, api.ErrLate},
		{1, pack(api.SFree, 1), api.SReady, api.ErrLate},
	} {
		if w, e := a.Turn(x.id, x.old, x.state); w != 0 || e != x.e {
			t.Errorf("%d: Turn(%d, %d, %d) = %d, %d, want %d", i, x.id, x.old, x.state, w, e, x.e)
		}
		told(t, a, 0, now, 0)
	}
}

// 4.1: a free id may be turned as Can says, and is then not free for Alloc.
func TestTurnFree(t *testing.T) {
	for _, s := range goals[api.SFree] {
		a := made(t, 3)
		if w, e := a.Turn(1, 0, s); w != pack(s, 1) || e != api.OK {
			t.Errorf("Turn(1, 0, %d) = %d, %d", s, w, e)
		}
		if id, e := a.Alloc(api.SReady); id != 2 || e != api.OK {
			t.Errorf("Alloc = %d, %d", id, e)
		}
		told(t, a, pack(s, 1), pack(api.SReady, 1), 0)
	}
}

// 4.1: Free of each state.
func TestFree(t *testing.T) {
	for s := range 7 {
		a := made(t, 3)
		w := lead(t, a, 3, s)
		e := a.Free(3)
		if !over(s) {
			if e != api.ErrState {
				t.Errorf("Free where it is %d: %d", s, e)
			}
			told(t, a, 0, 0, w)
			continue
		}
		w = w - uint64(s) + 8
		if e != api.OK {
			t.Errorf("Free where it is %d: %d", s, e)
		}
		told(t, a, 0, 0, w)
		if e := a.Free(3); e != api.ErrState {
			t.Errorf("Free again: %d", e)
		}
		told(t, a, 0, 0, w)
	}
}

// 4.1: ids and states that are none.
func TestNone(t *testing.T) {
	a := made(t, 3)
	for id := range 3 {
		lead(t, a, id+1, api.SDone)
	}
	w := pack(api.SDone, 3)
	for _, id := range noID {
		if a.Word(id) != 0 || a.State(id) != 0 {
			t.Errorf("id %d: word %d, state %d", id, a.Word(id), a.State(id))
		}
		if e := a.Free(id); e != api.ErrArg {
			t.Errorf("Free(%d) = %d", id, e)
		}
		for _, old := range []uint64{0, w, pack(api.SReady, 1), most} {
			for s := -1; s <= 7; s++ {
				if v, e := a.Turn(id, old, s); v != 0 || e != api.ErrArg {
					t.Errorf("Turn(%d, %d, %d) = %d, %d", id, old, s, v, e)
				}
			}
		}
	}
	for _, s := range noState {
		if n := a.Count(s); n != 0 {
			t.Errorf("Count(%d) = %d", s, n)
		}
	}
	told(t, a, w, w, w)
}

// 4.1: two arenas share nothing.
func TestTwoArenas(t *testing.T) {
	a, b := made(t, 2), made(t, 2)
	a.Alloc(api.SReady)
	told(t, a, pack(api.SReady, 1), 0)
	told(t, b, 0, 0)
	b.Alloc(api.SWaiting)
	told(t, a, pack(api.SReady, 1), 0)
	told(t, b, pack(api.SWaiting, 1), 0)
}

// 4.2, W2: of several who saw one word one turns it, whoever comes first and whatever each would turn it to.
func TestOneTurns(t *testing.T) {
	for from, to := range goals {
		for mask := range 81 {
			a := made(t, 2)
			old := lead(t, a, 1, from)
			done := 0
			for range 4 {
				if len(to) == 0 {
					break
				}
				goal := to[mask%3%len(to)]
				mask /= 3
				w, e := a.Turn(1, old, goal)
				if e == api.OK {
					done++
				} else if e != api.ErrLate || w != 0 {
					t.Errorf("%d to %d: %d, %d", from, goal, w, e)
				}
			}
			if len(to) > 0 && done != 1 {
				t.Errorf("from %d: %d Turns were done", from, done)
			}
		}
	}
}

// 4.2, W2: a task that was claimed, came back and is ready again is not claimed by who saw its word ahead of that, nor is the next task that has its id.
func TestOldWord(t *testing.T) {
	a := made(t, 1)
	a.Alloc(api.SReady)
	old := a.Word(1)
	late := func() {
		t.Helper()
		if w, e := a.Turn(1, old, api.SClaimed); w != 0 || e != api.ErrLate {
			t.Errorf("Turn from the old word = %d, %d", w, e)
		}
	}
	for _, s := range []int{api.SClaimed, api.SWaiting, api.SReady, api.SCancelled} {
		if _, e := a.Turn(1, a.Word(1), s); e != api.OK {
			t.Fatalf("Turn to %d: %d", s, e)
		}
		late()
	}
	a.Free(1)
	late()
	if id, e := a.Alloc(api.SReady); id != 1 || e != api.OK {
		t.Fatalf("Alloc = %d, %d", id, e)
	}
	late()
	told(t, a, pack(api.SReady, 7))
}

// model is an arena told as plainly as may be: of each id all the words that it had, the last one last.
type model [][]uint64

func (m model) last(id int) uint64 {
	return m[id-1][len(m[id-1])-1]
}

func (m model) has(id int) bool {
	return id >= 1 && id <= len(m)
}

func (m model) write(id, state int) uint64 {
	w := (m.last(id)/8+1)*8 + uint64(state)
	m[id-1] = append(m[id-1], w)
	return w
}

func (m model) alloc(state int) (int, api.Errno) {
	if !may(api.SFree, state) {
		return 0, api.ErrArg
	}
	for id := 1; id <= len(m); id++ {
		if m.last(id)%8 == api.SFree {
			m.write(id, state)
			return id, api.OK
		}
	}
	return 0, api.ErrMany
}

func (m model) turn(id int, old uint64, state int) (uint64, api.Errno) {
	switch {
	case !m.has(id) || state < 1 || state > 6:
		return 0, api.ErrArg
	case !may(int(old%8), state):
		return 0, api.ErrState
	case m.last(id) != old:
		return 0, api.ErrLate
	}
	return m.write(id, state), api.OK
}

func (m model) free(id int) api.Errno {
	if !m.has(id) {
		return api.ErrArg
	}
	if !over(int(m.last(id) % 8)) {
		return api.ErrState
	}
	m.write(id, api.SFree)
	return api.OK
}

func (m model) words() []uint64 {
	all := []uint64{}
	for id := range m {
		all = append(all, m.last(id+1))
	}
	return all
}

// seen is a word that id had at some time, most often its last; of an id that is none it is another's.
func (m model) seen(id int, draw func(int) int) uint64 {
	if !m.has(id) {
		id = 1 + draw(len(m))
	}
	if draw(4) > 0 {
		return m.last(id)
	}
	return m[id-1][draw(len(m[id-1]))]
}

// 4.1, 4.2: long rows of calls, right and wrong, against all the words that there were; no word of an id comes again.
func TestRowsOfCalls(t *testing.T) {
	for seed := uint64(1); seed <= 20; seed++ {
		at := seed
		draw := func(n int) int {
			at = at*6364136223846793005 + 1442695040888963407
			return int(at >> 33 % uint64(n))
		}
		size := 1 + draw(6)
		a, m := made(t, size), make(model, size)
		for i := range m {
			m[i] = []uint64{0}
		}
		for step := range 1000 {
			id, state := draw(size+2), draw(9)-1
			switch draw(4) {
			case 0:
				got, e := a.Alloc(state)
				if want, we := m.alloc(state); got != want || e != we {
					t.Fatalf("seed %d, step %d: Alloc(%d) = %d, %d, want %d, %d", seed, step, state, got, e, want, we)
				}
			case 1:
				e := a.Free(id)
				if we := m.free(id); e != we {
					t.Fatalf("seed %d, step %d: Free(%d) = %d, want %d", seed, step, id, e, we)
				}
			default:
				old := m.seen(id, draw)
				got, e := a.Turn(id, old, state)
				if want, we := m.turn(id, old, state); got != want || e != we {
					t.Fatalf("seed %d, step %d: Turn(%d, %d, %d) = %d, %d, want %d, %d", seed, step, id, old, state, got, e, want, we)
				}
			}
			told(t, a, m.words()...)
			if t.Failed() {
				t.Fatalf("seed %d, step %d", seed, step)
			}
		}
		never(t, m)
	}
}

// never looks for a word that came again.
func never(t *testing.T, m model) {
	t.Helper()
	for i, all := range m {
		had := map[uint64]bool{}
		for _, w := range all {
			if had[w] {
				t.Errorf("id %d had the word %d twice", i+1, w)
			}
			had[w] = true
		}
	}
}

// 4.2: an id that goes round and round never has a word that it had.
func TestNeverAgain(t *testing.T) {
	a := made(t, 1)
	had := map[uint64]bool{a.Word(1): true}
	note := func() {
		t.Helper()
		if w := a.Word(1); had[w] {
			t.Errorf("the word %d came again", w)
		} else {
			had[w] = true
		}
	}
	for range 500 {
		a.Alloc(api.SWaiting)
		note()
		for _, s := range []int{api.SReady, api.SClaimed, api.SWaiting, api.SReady, api.SClaimed, api.SDone} {
			a.Turn(1, a.Word(1), s)
			note()
		}
		a.Free(1)
		note()
	}
	if v := word.Version(a.Word(1)); v != 4000 {
		t.Errorf("version %d behind 4000 changes", v)
	}
}

// 4.3
func TestNoPanic(t *testing.T) {
	defer func() {
		if r := recover(); r != nil {
			t.Fatal(r)
		}
	}()
	numbers := append([]int{1, 2, 3, 6, 999, 1000}, append(noID, noState...)...)
	for _, n := range numbers {
		a, e := arena.New(n)
		if e != api.OK {
			continue
		}
		for _, x := range append([]int{n - 1, n, n + 1, -n}, numbers...) {
			a.Word(x)
			a.State(x)
			a.Count(x)
			a.Alloc(x)
			a.Free(x)
			for _, s := range numbers {
				for _, old := range []uint64{0, 3, 7, a.Word(x), 1 << 63, most, most - 5} {
					a.Turn(x, old, s)
				}
			}
		}
		a.Len()
	}
}
