package queue_test

import (
	"math"
	"slices"
	"sort"
	"testing"

	"verger/api"
	"verger/queue"
)

const most = math.MaxUint64

// mark is what is written over an answer; no queue of a test has it.
var mark = api.Entry{Key: 4321, ID: 4321}

// none has threads that are none, however many there are.
var none = []int{-1, 8, 9, -8, 1 << 8, 1 << 16, 1 << 32, 1<<32 + 1, math.MaxInt32, math.MinInt32, math.MaxInt, math.MaxInt - 1, math.MinInt}

// draws are asked for by Relaxed: each place of the first few, and words that have more than the low bits.
var draws = []uint64{0, 1, 2, 3, 4, 5, 6, 7, 15, 16, 17, 18, 1 << 31, 1 << 32, 1<<63 - 1, 1 << 63, most - 1, most}

func e(key uint64, id int) api.Entry { return api.Entry{Key: key, ID: id} }

// less is the order, without a layer below.
func less(a, b api.Entry) bool { return a.Key < b.Key || a.Key == b.Key && a.ID < b.ID }

func inOrder(l []api.Entry) []api.Entry {
	l = slices.Clone(l)
	sort.Slice(l, func(i, j int) bool { return less(l[i], l[j]) })
	return l
}

// item is an entry, and where it stands.
type item struct {
	e             api.Entry
	place, thread int
}

// model is a plain row of all that is waiting: what settles gets another place, but does not move.
type model struct {
	threads, k int
	items      []item
}

// at is what stands at a place, in the order in which it came.
func (m *model) at(place, thread int) []api.Entry {
	var l []api.Entry
	for _, x := range m.items {
		if x.place == place && x.thread == thread {
			l = append(l, x.e)
		}
	}
	return l
}

func (m *model) turn(place, thread, toPlace, toThread int) bool {
	turned := false
	for i, x := range m.items {
		if x.place == place && x.thread == thread {
			m.items[i].place, m.items[i].thread = toPlace, toThread
			turned = true
		}
	}
	return turned
}

func (m *model) settle(t int) bool {
	if !m.turn(api.QSlot, t, api.QLocal, t) {
		return false
	}
	if len(m.at(api.QLocal, t)) > m.k {
		m.turn(api.QLocal, t, api.QShared, 0)
	}
	return true
}

func (m *model) put(t int, x api.Entry) api.Errno {
	if t < 0 || t >= m.threads {
		return api.ErrArg
	}
	m.settle(t)
	m.items = append(m.items, item{x, api.QSlot, t})
	return api.OK
}

// find is where in the row the first one of that ID is; below 0, if there is none.
func (m *model) find(id int) int {
	found := -1
	for i, x := range m.items {
		if x.e.ID != id {
			continue
		}
		if found < 0 || x.place < m.items[found].place || x.place == m.items[found].place && x.thread < m.items[found].thread {
			found = i
		}
	}
	return found
}

func (m *model) take(id int) bool {
	i := m.find(id)
	if i < 0 {
		return false
	}
	m.items = slices.Concat(m.items[:i], m.items[i+1:])
	return true
}

func (m *model) where(id int) (place, thread int) {
	i := m.find(id)
	if i < 0 {
		return 0, 0
	}
	return m.items[i].place, m.items[i].thread
}

func (m *model) all() []api.Entry {
	var l []api.Entry
	for _, x := range m.items {
		l = append(l, x.e)
	}
	return inOrder(l)
}

func (m *model) slots() []api.Entry {
	var l []api.Entry
	for t := range m.threads {
		l = append(l, m.at(api.QSlot, t)...)
	}
	return l
}

func (m *model) relaxed(t int, draw uint64) (api.Entry, bool) {
	if t < 0 || t >= m.threads {
		return api.Entry{}, false
	}
	near := m.at(api.QLocal, t)
	if l := inOrder(m.at(api.QShared, 0)); len(l) > 0 {
		near = append(near, l[draw%uint64(min(len(l), m.k+1))])
	}
	for i := t + 1; len(near) == 0 && i <= t+m.threads; i++ {
		near = m.at(api.QLocal, i%m.threads)
	}
	if len(near) == 0 {
		near = m.slots()
	}
	if len(near) == 0 {
		return api.Entry{}, false
	}
	return inOrder(near)[0], true
}

func empty(t *testing.T, threads, k int) (*queue.Queue, *model) {
	t.Helper()
	q, f := queue.New(threads, k)
	if f != api.OK || q == nil {
		t.Fatalf("New(%d, %d) = %v, %d", threads, k, q, f)
	}
	return q, &model{threads: threads, k: k}
}

// put brings x to both.
func put(t *testing.T, q *queue.Queue, want *model, thread int, x api.Entry) {
	t.Helper()
	if got, f := q.Put(thread, x), want.put(thread, x); got != f {
		t.Fatalf("Put(%d, %v) = %d, want %d", thread, x, got, f)
	}
}

func settle(t *testing.T, q *queue.Queue, want *model, thread int) {
	t.Helper()
	if got, ok := q.Settle(thread), want.settle(thread); got != ok {
		t.Fatalf("Settle(%d) = %t, want %t", thread, got, ok)
	}
}

func take(t *testing.T, q *queue.Queue, want *model, id int) {
	t.Helper()
	if got, ok := q.Take(id), want.take(id); got != ok {
		t.Fatalf("Take(%d) = %t, want %t", id, got, ok)
	}
}

// same holds all that can be asked of q against the model.
func same(t *testing.T, q *queue.Queue, want *model) {
	t.Helper()
	sameLists(t, q, want)
	sameFound(t, q, want, draws)
}

func sameLists(t *testing.T, q *queue.Queue, want *model) {
	t.Helper()
	all := want.all()
	if got := q.All(); !slices.Equal(got, all) {
		t.Fatalf("All() = %v, want %v", got, all)
	}
	if got := q.Len(); got != len(all) {
		t.Fatalf("Len() = %d, want %d", got, len(all))
	}
	if got, l := q.Slots(), want.slots(); !slices.Equal(got, l) {
		t.Fatalf("Slots() = %v, want %v", got, l)
	}
	if got, l := q.Shared(), inOrder(want.at(api.QShared, 0)); !slices.Equal(got, l) {
		t.Fatalf("Shared() = %v, want %v", got, l)
	}
	for i := -1; i <= want.threads; i++ {
		if got, l := q.Local(i), inOrder(want.at(api.QLocal, i)); !slices.Equal(got, l) {
			t.Fatalf("Local(%d) = %v, want %v", i, got, l)
		}
	}
}

func sameFound(t *testing.T, q *queue.Queue, want *model, draws []uint64) {
	t.Helper()
	var least api.Entry
	all := want.all()
	if len(all) > 0 {
		least = all[0]
	}
	if got, ok := q.Least(); got != least || ok != (len(all) > 0) {
		t.Fatalf("Least() = %v, %t, want %v", got, ok, least)
	}
	for _, x := range append(all, e(0, 0), e(0, -77)) {
		place, thread := want.where(x.ID)
		if gotPlace, gotThread := q.Where(x.ID); gotPlace != place || gotThread != thread {
			t.Fatalf("Where(%d) = %d, %d, want %d, %d", x.ID, gotPlace, gotThread, place, thread)
		}
	}
	for i := -1; i <= want.threads; i++ {
		for _, draw := range draws {
			x, ok := want.relaxed(i, draw)
			if got, gotOk := q.Relaxed(i, draw); got != x || gotOk != ok {
				t.Fatalf("Relaxed(%d, %d) = %v, %t, want %v, %t", i, draw, got, gotOk, x, ok)
			}
		}
	}
}

// 10.1: the bounds of New; at first there is nothing.
func TestNew(t *testing.T) {
	for _, n := range []int{0, -1, -8, 9, 10, 16, 17, 1<<8 + 1, 1<<16 + 1, 1<<32 + 1, math.MaxInt, math.MinInt, math.MinInt + 1} {
		for _, k := range []int{0, 1, 16, -1, 17} {
			if q, f := queue.New(n, k); q != nil || f != api.ErrArg {
				t.Errorf("New(%d, %d) = %v, %d", n, k, q, f)
			}
		}
	}
	for _, k := range []int{-1, -2, -16, 17, 18, 1 << 8, 1 << 16, 1 << 32, 1<<32 + 1, math.MaxInt, math.MinInt, math.MinInt + 1} {
		for n := 1; n <= 8; n++ {
			if q, f := queue.New(n, k); q != nil || f != api.ErrArg {
				t.Errorf("New(%d, %d) = %v, %d", n, k, q, f)
			}
		}
	}
	for n := 1; n <= 8; n++ {
		for k := range 17 {
			q, want := empty(t, n, k)
			same(t, q, want)
		}
	}
}

// 10.2: the chapter's example.
func TestExample(t *testing.T) {
	q, want := empty(t, 1, 1)
	put(t, q, want, 0, e(5, 1))
	put(t, q, want, 0, e(3, 2))
	if got, ok := q.Least(); got != e(3, 2) || !ok {
		t.Errorf("Least() = %v, %t", got, ok)
	}
	same(t, q, want)
}

// 10.1: a Put goes to the thread's own slot, any entry, that of zeros too; what that slot had settles first.
func TestPut(t *testing.T) {
	ends := []api.Entry{{}, e(most, math.MaxInt), e(0, math.MinInt), e(1<<63, -1), e(3, 2)}
	for n := 1; n <= 8; n++ {
		for at := range n {
			q, want := empty(t, n, 3)
			var own []api.Entry
			for i, x := range ends {
				put(t, q, want, at, x)
				same(t, q, want)
				if got := q.Slots(); len(got) != 1 || got[0] != x {
					t.Fatalf("Slots() = %v behind Put(%d, %v)", got, at, x)
				}
				if i <= 3 && !slices.Equal(q.Local(at), inOrder(own)) {
					t.Fatalf("Local(%d) = %v, want %v", at, q.Local(at), own)
				}
				own = append(own, x)
			}
			if got := q.Shared(); !slices.Equal(got, inOrder(ends[:4])) {
				t.Fatalf("Shared() = %v", got)
			}
		}
	}
}

// 10.1: a thread that is none has no slot and no list, whatever the others have; asking for it changes nothing.
func TestNoSuchThread(t *testing.T) {
	for n := 1; n <= 8; n++ {
		for _, puts := range []int{0, 1, 4} {
			q, want := empty(t, n, 1)
			for i := range puts * n {
				put(t, q, want, i%n, e(uint64(50-i), i+1))
			}
			for _, at := range append([]int{n, n + 1, -n}, none...) {
				if f := q.Put(at, mark); f != api.ErrArg {
					t.Errorf("Put(%d) of %d = %d", at, n, f)
				}
				if q.Settle(at) {
					t.Errorf("Settle(%d) of %d is true", at, n)
				}
				if got := q.Local(at); len(got) != 0 {
					t.Errorf("Local(%d) of %d = %v", at, n, got)
				}
				for _, draw := range draws {
					if got, ok := q.Relaxed(at, draw); got != (api.Entry{}) || ok {
						t.Errorf("Relaxed(%d, %d) of %d = %v, %t", at, draw, n, got, ok)
					}
				}
			}
			same(t, q, want)
		}
	}
}

// 10.1: an own list has up to k; the one that would be too many takes all of them to the shared one, and nothing of another thread.
func TestSettle(t *testing.T) {
	for k := range 17 {
		q, want := empty(t, 3, k)
		for i := range k {
			put(t, q, want, 2, e(uint64(i), 1000+i))
		}
		settle(t, q, want, 2)
		put(t, q, want, 0, e(5, 999))
		for i := range k + 1 {
			if got := q.Local(1); len(got) != i || len(q.Shared()) != 0 {
				t.Fatalf("k %d: Local(1) = %v, Shared() = %v behind %d", k, got, q.Shared(), i)
			}
			put(t, q, want, 1, e(uint64(100-i%5), i+1))
			settle(t, q, want, 1)
			same(t, q, want)
		}
		if len(q.Local(1)) != 0 || len(q.Shared()) != k+1 || len(q.Local(2)) != k || len(q.Slots()) != 1 {
			t.Fatalf("k %d: %v, %v", k, q.Local(1), q.Shared())
		}
	}
}

// 10.1: an empty slot settles nothing, however often it is asked.
func TestSettleNothing(t *testing.T) {
	q, want := empty(t, 2, 1)
	if q.Settle(0) || q.Settle(1) {
		t.Error("an empty queue settles")
	}
	put(t, q, want, 0, api.Entry{})
	if q.Settle(1) || !q.Settle(0) || q.Settle(0) {
		t.Error("what is in slot 0 does not settle just once")
	}
	want.settle(0)
	same(t, q, want)
	put(t, q, want, 1, e(4, 4))
	take(t, q, want, 4)
	if q.Settle(1) {
		t.Error("what was taken settles")
	}
	same(t, q, want)
}

// 10.2: the least is found in a slot, in an own list and in the shared one; of one Key the lesser ID.
func TestLeast(t *testing.T) {
	for at := range 7 {
		q, want := empty(t, 3, 1)
		ids := []int{20, 21, 22, 23, 24, 25, 26}
		ids[at] = -5
		for thread, row := range [][]int{{0, 1, 2, 3}, {4, 5}, {6}} {
			for _, i := range row {
				put(t, q, want, thread, e(7, ids[i]))
			}
		}
		if got, ok := q.Least(); got != e(7, -5) || !ok {
			t.Errorf("Least() = %v, %t with %v", got, ok, q.All())
		}
		same(t, q, want)
	}
}

// 10.2: of the own list's least and the shared one's draw the lesser, neither from the slots nor from another's own list.
func TestRelaxedNear(t *testing.T) {
	q, want := empty(t, 3, 2)
	for i, key := range []uint64{40, 20, 30, 10} {
		put(t, q, want, 0, e(key, i+1))
	}
	put(t, q, want, 1, e(25, 11))
	settle(t, q, want, 1)
	put(t, q, want, 2, e(1, 21))
	same(t, q, want)
	for i, x := range []struct {
		t    int
		draw uint64
		want api.Entry
	}{
		{0, 0, e(20, 2)}, {0, 1, e(30, 3)}, {0, 2, e(40, 1)}, {0, 3, e(20, 2)}, {0, most, e(20, 2)}, {0, most - 1, e(40, 1)},
		{1, 0, e(20, 2)}, {1, 1, e(25, 11)}, {1, 2, e(25, 11)},
		{2, 0, e(20, 2)}, {2, 1, e(30, 3)}, {2, 2, e(40, 1)},
	} {
		if got, ok := q.Relaxed(x.t, x.draw); got != x.want || !ok {
			t.Errorf("%d: Relaxed(%d, %d) = %v, %t, want %v", i, x.t, x.draw, got, ok, x.want)
		}
	}
}

// 10.2: of one Key the lesser ID is the lesser one, on whichever side it stands.
func TestRelaxedSameKey(t *testing.T) {
	for _, ids := range [][2]int{{3, 8}, {8, 3}} {
		q, want := empty(t, 1, 0)
		put(t, q, want, 0, e(7, ids[0]))
		settle(t, q, want, 0)
		put(t, q, want, 0, e(7, ids[1]))
		settle(t, q, want, 0)
		if got, ok := q.Relaxed(0, 5); got != e(7, 3) || !ok {
			t.Errorf("Relaxed(0, 5) = %v, %t with %v", got, ok, q.Shared())
		}
		q, want = empty(t, 1, 1)
		for _, id := range []int{ids[0], 99, ids[1]} {
			put(t, q, want, 0, e(7, id))
		}
		settle(t, q, want, 0)
		take(t, q, want, 99)
		if got, ok := q.Relaxed(0, 4); got != e(7, 3) || !ok {
			t.Errorf("Relaxed(0, 4) = %v, %t with %v and %v", got, ok, q.Local(0), q.Shared())
		}
		same(t, q, want)
	}
}

// 10.2: with nothing close by, the next own list that has one, from the thread behind on, round, though another one's is less.
func TestRelaxedFurther(t *testing.T) {
	for n := 1; n <= 8; n++ {
		for has := range 1 << n {
			q, want := empty(t, n, 2)
			for at := range n {
				if has>>at&1 == 1 {
					put(t, q, want, at, e(uint64(9*at*at%17), 2*at+1))
					put(t, q, want, at, e(uint64(9*at*at%17)+1, 2*at+2))
					settle(t, q, want, at)
				} else {
					put(t, q, want, at, e(0, 100-at))
				}
			}
			for at := range n {
				got, ok := q.Relaxed(at, 3)
				wantOne, _ := want.relaxed(at, 3)
				if got != wantOne || !ok {
					t.Fatalf("Relaxed(%d, 3) = %v, %t, want %v", at, got, ok, wantOne)
				}
			}
		}
	}
}

// 10.2: with nothing in a list, the least of the slots, not the first of them.
func TestRelaxedSlots(t *testing.T) {
	for n := 1; n <= 8; n++ {
		for least := range n {
			q, want := empty(t, n, 4)
			for at := range n {
				key := uint64(50)
				if at == least {
					key = 49
				}
				put(t, q, want, at, e(key, 20-at))
			}
			for at := range n {
				if got, ok := q.Relaxed(at, most); got != e(49, 20-least) || !ok {
					t.Fatalf("Relaxed(%d) = %v, %t, want %d:%d", at, got, ok, 49, 20-least)
				}
			}
			same(t, q, want)
		}
	}
}

// 10.2: what is Relaxed, Least or told of stays where it is.
func TestLookingChangesNothing(t *testing.T) {
	q, want := empty(t, 3, 1)
	for i := range 12 {
		put(t, q, want, i%3, e(uint64(i*7%5), i+1))
		for range 3 {
			same(t, q, want)
		}
	}
}

// everywhere is a queue of two threads that has the ID in each slot, each own list and the shared one.
func everywhere(t *testing.T, id int) (*queue.Queue, *model) {
	t.Helper()
	q, want := empty(t, 2, 1)
	put(t, q, want, 0, e(9, id))
	put(t, q, want, 0, e(8, 77))
	put(t, q, want, 0, e(7, id))
	put(t, q, want, 0, e(6, id))
	put(t, q, want, 1, e(5, id))
	put(t, q, want, 1, e(4, id))
	return q, want
}

// 10.2: of several of one ID that of the first place: the slots, then the own lists, each by threads, then the shared one.
func TestTakeFirst(t *testing.T) {
	for _, id := range []int{5, 0, -1, math.MaxInt, math.MinInt} {
		q, want := everywhere(t, id)
		for i, at := range [][2]int{{api.QSlot, 0}, {api.QSlot, 1}, {api.QLocal, 0}, {api.QLocal, 1}, {api.QShared, 0}} {
			if place, thread := q.Where(id); place != at[0] || thread != at[1] {
				t.Fatalf("Where(%d) = %d, %d, want %v", id, place, thread, at)
			}
			take(t, q, want, id)
			same(t, q, want)
			if q.Len() != 5-i {
				t.Fatalf("%d are left behind %d", q.Len(), i+1)
			}
		}
		if place, thread := q.Where(id); place != api.QNone || thread != 0 || q.Take(id) {
			t.Fatalf("%d is still there: %v", id, q.All())
		}
		if got := q.All(); !slices.Equal(got, []api.Entry{e(8, 77)}) {
			t.Fatalf("All() = %v", got)
		}
	}
}

// 10.2: an ID that is nowhere is not taken, that of an empty slot neither.
func TestTakeNothing(t *testing.T) {
	q, want := everywhere(t, 5)
	for _, id := range []int{0, 1, 2, 4, 6, 7, 8, 9, 76, 78, -5, 5 + 1<<32, math.MaxInt, math.MinInt} {
		if q.Take(id) {
			t.Errorf("Take(%d) is true", id)
		}
		if place, thread := q.Where(id); place != api.QNone || thread != 0 {
			t.Errorf("Where(%d) = %d, %d", id, place, thread)
		}
	}
	same(t, q, want)
	take(t, q, want, 5)
	if q.Take(0) {
		t.Error("an empty slot has 0")
	}
	same(t, q, want)
}

// 10.2: several of one ID in one list: a Take takes some of them, and nothing else; Takes come to an end.
func TestTakeAlike(t *testing.T) {
	for k := range 17 {
		q, want := empty(t, 1, k)
		for i := range 40 {
			put(t, q, want, 0, e(uint64(i%4), i%3))
		}
		others := len(slices.DeleteFunc(q.All(), func(x api.Entry) bool { return x.ID == 1 }))
		for before := q.Len(); q.Take(1); before = q.Len() {
			if q.Len() >= before {
				t.Fatalf("k %d: %d before Take, %d behind it", k, before, q.Len())
			}
		}
		if place, _ := q.Where(1); place != api.QNone || q.Len() != others {
			t.Fatalf("k %d: %v is left", k, q.All())
		}
	}
}

// 10.3: what is wholly the same stands there as often as it was put.
func TestSameTwice(t *testing.T) {
	for k := range 17 {
		q, want := empty(t, 2, k)
		for i := range 40 {
			put(t, q, want, i%2, e(7, 7))
			sameLists(t, q, want)
		}
		if q.Len() != 40 {
			t.Errorf("k %d: %d of 40", k, q.Len())
		}
	}
}

// 10.2: what is answered is new memory, its spare room too, and does not change later.
func TestAnswersAreNew(t *testing.T) {
	q, want := empty(t, 2, 2)
	next := 0
	lists := func() [][]api.Entry {
		return [][]api.Entry{q.All(), q.Slots(), q.Shared(), q.Local(0), q.Local(1)}
	}
	for range 60 {
		next++
		put(t, q, want, next%3/2, e(uint64(next*11%23), next))
		kept := lists()
		copied := lists()
		for _, l := range lists() {
			l = l[:cap(l)]
			for i := range l {
				l[i] = mark
			}
		}
		same(t, q, want)
		settle(t, q, want, 0)
		take(t, q, want, next-3)
		for i, l := range kept {
			if !slices.Equal(l, copied[i]) {
				t.Fatalf("list %d turned from %v into %v", i, copied[i], l)
			}
		}
	}
}

// 10.1: one knows nothing of another.
func TestTwo(t *testing.T) {
	a, wantA := everywhere(t, 5)
	b, wantB := everywhere(t, 6)
	take(t, a, wantA, 5)
	settle(t, b, wantB, 1)
	put(t, b, wantB, 0, e(1, 1))
	same(t, a, wantA)
	same(t, b, wantB)
}

// kinds is how many calls play knows.
const kinds = 8

// play does to both the call that the number says: a Put of one that is less than all, or greater, to either thread, a Settle, a Take of the first or of the last that was put.
func play(t *testing.T, q *queue.Queue, want *model, call, step int) {
	t.Helper()
	switch call {
	case 0, 1:
		put(t, q, want, call, e(uint64(100-step), step+1))
	case 2, 3:
		put(t, q, want, call-2, e(uint64(100+step), step+1))
	case 4, 5:
		settle(t, q, want, call-4)
	case 6:
		take(t, q, want, 1)
	case 7:
		take(t, q, want, step)
	}
}

// 10.1, 10.2: every row of a few calls, held against the model at its end.
func TestRows(t *testing.T) {
	const long = 5
	for k := range 3 {
		rows := 1
		for n := 1; n <= long; n++ {
			rows *= kinds
			for row := range rows {
				q, want := empty(t, 2, k)
				for left, step := row, 0; step < n; step++ {
					play(t, q, want, left%kinds, step)
					left /= kinds
				}
				sameLists(t, q, want)
				sameFound(t, q, want, draws[:4])
			}
		}
	}
}

// bounded holds that at most threads times k, and threads, are less than what any thread may find.
func bounded(t *testing.T, q *queue.Queue, threads, k int) {
	t.Helper()
	all := q.All()
	for at := range threads {
		for _, draw := range draws {
			found, ok := q.Relaxed(at, draw)
			if ok != (len(all) > 0) {
				t.Fatalf("Relaxed(%d, %d) = %v, %t with %v", at, draw, found, ok, all)
			}
			passed := 0
			for _, x := range all {
				if less(x, found) {
					passed++
				}
			}
			if ok && !slices.Contains(all, found) || passed > threads*k+threads {
				t.Fatalf("Relaxed(%d, %d) = %v of %v: %d are less, threads %d, k %d", at, draw, found, all, passed, threads, k)
			}
		}
	}
}

// 10.1 to 10.3, W4: long rows upon all numbers of threads and all k; nothing is lost, nothing comes twice, and what is Relaxed is not far from the least.
func TestLongRows(t *testing.T) {
	state := uint64(1)
	next := func(n int) int {
		state = state*6364136223846793005 + 1442695040888963407
		return int(state >> 33 % uint64(n))
	}
	for n := 1; n <= 8; n++ {
		for k := range 17 {
			q, want := empty(t, n, k)
			id := 0
			for step := range 12 * (k + 4) {
				at := next(n+2) - 1
				switch next(8) {
				case 0, 1, 2, 3, 4:
					id++
					put(t, q, want, at, e(uint64(next(40)), id*(1-next(2)*2)))
				case 5:
					settle(t, q, want, at)
				case 6:
					take(t, q, want, next(id+2)*(1-next(2)*2))
				case 7:
					if x, ok := q.Relaxed(at, state); ok {
						take(t, q, want, x.ID)
					}
				}
				if step%11 == 0 {
					same(t, q, want)
					bounded(t, q, n, k)
				}
			}
			same(t, q, want)
			bounded(t, q, n, k)
		}
	}
}

// 10.3, W4: so many may be less, but no more: the shared one's first k, what the other threads have, and the slots.
func TestBoundIsReached(t *testing.T) {
	for n := 1; n <= 8; n++ {
		for k := range 17 {
			q, want := empty(t, n, k)
			id := 0
			fill := func(at, many int, key uint64) {
				for range many {
					id++
					put(t, q, want, at, e(key, id))
				}
				settle(t, q, want, at)
			}
			fill(0, k+1, 9)
			for at := 1; at < n; at++ {
				fill(at, k, 5)
			}
			for at := range n {
				id++
				put(t, q, want, at, e(2, id))
			}
			same(t, q, want)
			bounded(t, q, n, k)
			found, _ := q.Relaxed(0, uint64(k))
			if got := slices.Index(q.All(), found); got != n*k+n {
				t.Errorf("threads %d, k %d: %d are less than %v, want %d", n, k, got, found, n*k+n)
			}
		}
	}
}

// 10.3: all that is put is found sooner or later, by any thread alone, and each but once.
func TestAllIsFound(t *testing.T) {
	for n := 1; n <= 8; n++ {
		for _, k := range []int{0, 1, 3, 16} {
			for alone := range n {
				q, _ := empty(t, n, k)
				const many = 64
				for i := range many {
					q.Put(i*i%n, e(uint64(i*29%31), i))
				}
				seen := map[int]int{}
				for draw := uint64(0); ; draw += 5 {
					x, ok := q.Relaxed(alone, draw)
					if !ok {
						break
					}
					seen[x.ID]++
					if !q.Take(x.ID) {
						t.Fatalf("%v was found but not taken", x)
					}
					if seen[x.ID] > 1 {
						t.Fatalf("%v was found twice", x)
					}
				}
				if len(seen) != many || q.Len() != 0 {
					t.Fatalf("threads %d, k %d: %d of %d were found, %v is left", n, k, len(seen), many, q.All())
				}
			}
		}
	}
}

// 10.4: raw numbers are answered, whatever was done ahead of them.
func FuzzCalls(f *testing.F) {
	f.Add([]byte{0, 0, 0, 4, 1, 5}, 2, 1, 0, uint64(1), uint64(5), 200)
	f.Add([]byte{2, 3, 2, 3, 6, 7, 2}, 8, 16, 7, uint64(0), uint64(0), 0)
	f.Add([]byte{}, 9, 17, math.MinInt, uint64(most), uint64(most), math.MinInt)
	f.Add([]byte{1, 1, 1, 1}, 3, 0, math.MaxInt, uint64(1<<63), uint64(most), math.MaxInt)
	f.Add([]byte{0}, 1, math.MinInt, -1, uint64(most), uint64(1), -1)
	f.Fuzz(func(t *testing.T, row []byte, threads, k, at int, draw, key uint64, id int) {
		q, fault := queue.New(threads, k)
		if threads < 1 || threads > 8 || k < 0 || k > 16 {
			if q != nil || fault != api.ErrArg {
				t.Fatalf("New(%d, %d) = %v, %d", threads, k, q, fault)
			}
			return
		}
		want := &model{threads: threads, k: k}
		for step, x := range row[:min(len(row), 64)] {
			play(t, q, want, int(x)%kinds, step)
		}
		same(t, q, want)
		if place, _ := want.where(id); place == api.QNone {
			put(t, q, want, at, e(key, id))
		}
		same(t, q, want)
		x, ok := want.relaxed(at, draw)
		if got, gotOk := q.Relaxed(at, draw); got != x || gotOk != ok {
			t.Fatalf("Relaxed(%d, %d) = %v, %t, want %v, %t", at, draw, got, gotOk, x, ok)
		}
		bounded(t, q, threads, k)
		settle(t, q, want, at)
		take(t, q, want, id)
		same(t, q, want)
	})
}
