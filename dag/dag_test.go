package dag_test

import (
	"math"
	"slices"
	"testing"

	"verger/api"
	"verger/dag"
)

// model keeps one plain list of pairs, as they came, and works each answer out of it.
type model struct {
	pairs [][2]int
}

func (m *model) has(pred, id int) bool {
	for _, p := range m.pairs {
		if p[0] == pred && p[1] == id {
			return true
		}
	}
	return false
}

// inOrder puts each into its place, and none twice.
func inOrder(l []int) []int {
	var out []int
	for _, x := range l {
		at := 0
		for at < len(out) && out[at] < x {
			at++
		}
		if at == len(out) || out[at] != x {
			out = append(out[:at:at], append([]int{x}, out[at:]...)...)
		}
	}
	return out
}

// side is, of the pairs that have id at one place, what they have at the other.
func (m *model) side(id, at int) []int {
	var out []int
	for _, p := range m.pairs {
		if p[at] == id {
			out = append(out, p[1-at])
		}
	}
	return inOrder(out)
}

func (m *model) waits(id int) []int  { return m.side(id, 1) }
func (m *model) behind(id int) []int { return m.side(id, 0) }

func (m *model) waiting() []int {
	var out []int
	for _, p := range m.pairs {
		out = append(out, p[1])
	}
	return inOrder(out)
}

func (m *model) add(id int, preds []int) (int, api.Errno) {
	bad := id <= 0
	for _, p := range preds {
		bad = bad || p <= 0 || p >= id
	}
	if bad {
		return 0, api.ErrArg
	}
	if len(m.waits(id)) > 0 {
		return 0, api.ErrExists
	}
	n := 0
	for _, p := range preds {
		if !m.has(p, id) {
			m.pairs = append(m.pairs, [2]int{p, id})
			n++
		}
	}
	return n, api.OK
}

// keep leaves only the pairs that the question says yes to.
func (m *model) keep(yes func(pred, id int) bool) {
	var left [][2]int
	for _, p := range m.pairs {
		if yes(p[0], p[1]) {
			left = append(left, p)
		}
	}
	m.pairs = left
}

func (m *model) done(id int) []int {
	before := m.waiting()
	m.keep(func(pred, _ int) bool { return pred != id })
	var out []int
	for _, x := range before {
		if len(m.waits(x)) == 0 {
			out = append(out, x)
		}
	}
	return out
}

// kill goes over all pairs again and again, until no more of them go.
func (m *model) kill(id int) []int {
	gone := []int{id}
	for again := true; again; {
		again = false
		for _, p := range m.pairs {
			if slices.Contains(gone, p[0]) && !slices.Contains(gone, p[1]) {
				gone = append(gone, p[1])
				again = true
			}
		}
	}
	m.keep(func(_, next int) bool { return !slices.Contains(gone, next) })
	return inOrder(gone[1:])
}

// both plays each call to the package and to the model.
type both struct {
	t *testing.T
	d *dag.Dag
	m *model
}

func newBoth(t *testing.T) both {
	return both{t, dag.New(), &model{}}
}

func (b both) add(id int, preds ...int) {
	b.t.Helper()
	want, bad := b.m.add(id, preds)
	if n, e := b.d.Add(id, preds); n != want || e != bad {
		b.t.Fatalf("Add(%d, %v) = %d, %d, want %d, %d", id, preds, n, e, want, bad)
	}
}

func (b both) done(id int) {
	b.t.Helper()
	want := b.m.done(id)
	if got := b.d.Done(id); !slices.Equal(got, want) {
		b.t.Fatalf("Done(%d) = %v, want %v", id, got, want)
	}
}

func (b both) kill(id int) {
	b.t.Helper()
	want := b.m.kill(id)
	if got := b.d.Kill(id); !slices.Equal(got, want) {
		b.t.Fatalf("Kill(%d) = %v, want %v", id, got, want)
	}
}

// hold asks all that can be asked without changing anything, of these ids.
func (b both) hold(ids []int) {
	b.t.Helper()
	for _, id := range ids {
		if got, want := b.d.Waits(id), b.m.waits(id); !slices.Equal(got, want) {
			b.t.Fatalf("Waits(%d) = %v, want %v", id, got, want)
		}
		if got, want := b.d.Behind(id), b.m.behind(id); !slices.Equal(got, want) {
			b.t.Fatalf("Behind(%d) = %v, want %v", id, got, want)
		}
	}
	if got, want := b.d.Len(), len(b.m.waiting()); got != want {
		b.t.Fatalf("Len() = %d, want %d", got, want)
	}
}

var few = []int{0, 1, 2, 3, 4, 5, 6, 7}

// raw has the ends of the numbers, and what lies about 1.
var raw = []int{math.MinInt, math.MinInt + 1, -2, -1, 0, 1, 2, 3, math.MaxInt - 1, math.MaxInt}

// 14.1: the document's example.
func TestExample(t *testing.T) {
	d := dag.New()
	if n, e := d.Add(3, []int{1, 2}); n != 2 || e != api.OK {
		t.Fatal("Add(3, 1 2) =", n, e)
	}
	if got := d.Done(1); len(got) != 0 {
		t.Fatal("Done(1) =", got)
	}
	if got := d.Done(2); !slices.Equal(got, []int{3}) {
		t.Fatal("Done(2) =", got)
	}
}

// 14.1: in a new one nobody waits, and there is nothing to tell.
func TestNew(t *testing.T) {
	b := newBoth(t)
	b.hold(raw)
	for _, id := range raw {
		if got := b.d.Done(id); len(got) != 0 {
			t.Errorf("Done(%d) = %v", id, got)
		}
		if got := b.d.Kill(id); len(got) != 0 {
			t.Errorf("Kill(%d) = %v", id, got)
		}
	}
	b.hold(raw)
}

// 14.1: what Add answers; ErrArg ahead of ErrExists; where it answers an error, nothing has changed.
func TestAddAnswers(t *testing.T) {
	for _, x := range []struct {
		name  string
		id    int
		preds []int
		n     int
		e     api.Errno
	}{
		{"none", 4, nil, 0, api.OK},
		{"an empty list", 4, []int{}, 0, api.OK},
		{"one", 4, []int{3}, 1, api.OK},
		{"all that are less", 4, []int{1, 2, 3}, 3, api.OK},
		{"falling", 4, []int{3, 2, 1}, 3, api.OK},
		{"each once", 4, []int{2, 1, 2, 2, 1}, 2, api.OK},
		{"one that waits itself", 6, []int{5}, 1, api.OK},
		{"one that nobody knows", 1000, []int{999}, 1, api.OK},
		{"the greatest", math.MaxInt, []int{1, math.MaxInt - 1}, 2, api.OK},
		{"the least, without preds", 1, nil, 0, api.OK},
		{"id 0", 0, nil, 0, api.ErrArg},
		{"id below 0", -1, nil, 0, api.ErrArg},
		{"the least number", math.MinInt, []int{math.MinInt}, 0, api.ErrArg},
		{"id 0 and a pred below", 0, []int{-1}, 0, api.ErrArg},
		{"the least has none below", 1, []int{1}, 0, api.ErrArg},
		{"pred 0", 4, []int{0}, 0, api.ErrArg},
		{"pred below 0", 4, []int{1, -1}, 0, api.ErrArg},
		{"the least number as pred", 4, []int{math.MinInt, 1}, 0, api.ErrArg},
		{"pred is id", 4, []int{4}, 0, api.ErrArg},
		{"pred beyond id", 4, []int{5}, 0, api.ErrArg},
		{"the greatest as pred", 4, []int{math.MaxInt}, 0, api.ErrArg},
		{"the last pred is wrong", 4, []int{1, 2, 3, 4}, 0, api.ErrArg},
		{"the first pred is wrong", 4, []int{4, 1, 2, 3}, 0, api.ErrArg},
		{"it waits", 5, []int{4}, 0, api.ErrExists},
		{"it waits for the same", 5, []int{1, 2}, 0, api.ErrExists},
		{"it waits, without preds", 5, nil, 0, api.ErrExists},
		{"it waits, and a pred is wrong", 5, []int{1, 5}, 0, api.ErrArg},
		{"it waits, and pred 0", 5, []int{0}, 0, api.ErrArg},
	} {
		b := newBoth(t)
		b.add(5, 1, 2)
		if n, e := b.d.Add(x.id, x.preds); n != x.n || e != x.e {
			t.Errorf("%s: %d, %d, want %d, %d", x.name, n, e, x.n, x.e)
		}
		if x.e == api.OK {
			b.m.add(x.id, x.preds)
		}
		b.hold(append(slices.Clone(few), 999, 1000, math.MaxInt-1, math.MaxInt, -1, math.MinInt))
		if t.Failed() {
			t.Fatal(x.name)
		}
	}
}

// 14.1: one without preds is not put down: it does not wait, it can be Added again, and nobody tells of it.
func TestNotPutDown(t *testing.T) {
	b := newBoth(t)
	b.add(4)
	b.add(4)
	b.hold(few)
	b.kill(4)
	b.add(4, 1)
	b.add(4)
	b.hold(few)
	b.done(1)
	b.add(4)
	b.add(4, 3)
	b.hold(few)
}

// 14.1: what is Done itself goes on waiting, if it did; only those behind it are freed of it.
func TestDoneOfOneThatWaits(t *testing.T) {
	b := newBoth(t)
	b.add(2, 1)
	b.add(3, 2)
	b.add(4, 2, 1)
	if got := b.d.Done(2); !slices.Equal(got, []int{3}) {
		t.Fatal("Done(2) =", got)
	}
	b.m.done(2)
	b.hold(few)
	b.add(2, 1)
	if got := b.d.Done(1); !slices.Equal(got, []int{2, 4}) {
		t.Fatal("Done(1) =", got)
	}
	b.m.done(1)
	b.hold(few)
}

// 14.1: Done goes one step; who is told by it is Done on its own.
func TestDoneGoesOneStep(t *testing.T) {
	b := newBoth(t)
	for id := 2; id <= 7; id++ {
		b.add(id, id-1)
	}
	for id := 1; id <= 6; id++ {
		if got := b.d.Done(id); !slices.Equal(got, []int{id + 1}) {
			t.Fatalf("Done(%d) = %v", id, got)
		}
		b.m.done(id)
		b.hold(few)
	}
}

// 14.1: Kill goes all the way; what those that go waited for stays, and is waited for by the others.
func TestKillGoesAllTheWay(t *testing.T) {
	b := newBoth(t)
	b.add(3, 1, 2)
	b.add(4, 3)
	b.add(5, 4, 2)
	b.add(6, 5, 3, 1)
	b.add(7, 1, 2)
	if got := b.d.Kill(3); !slices.Equal(got, []int{4, 5, 6}) {
		t.Fatal("Kill(3) =", got)
	}
	b.m.kill(3)
	b.hold(few)
	if got := b.d.Behind(2); !slices.Equal(got, []int{7}) || b.d.Len() != 1 {
		t.Fatal("Behind(2) =", got, "Len() =", b.d.Len())
	}
	b.add(3, 2)
	b.add(6, 3)
	b.hold(few)
	b.done(2)
	b.hold(few)
}

// 14.1: of one that waits and that nobody waits for, Kill answers none, but it is gone all the same.
func TestKillLast(t *testing.T) {
	b := newBoth(t)
	b.add(3, 1, 2)
	b.add(4, 1)
	b.kill(4)
	b.hold(few)
	b.kill(3)
	b.hold(few)
	b.done(1)
	b.done(2)
	b.hold(few)
}

// 14.1: of one that does not wait, those behind it go.
func TestKillFirst(t *testing.T) {
	b := newBoth(t)
	b.add(5, 4, 2)
	b.add(3, 1, 2)
	b.add(6, 4)
	if got := b.d.Kill(2); !slices.Equal(got, []int{3, 5}) {
		t.Fatal("Kill(2) =", got)
	}
	b.m.kill(2)
	b.hold(few)
}

// 14.1: whatever the order in which they came, answers rise.
func TestRising(t *testing.T) {
	for _, ids := range [][]int{{6, 7, 8, 9}, {9, 8, 7, 6}, {8, 6, 9, 7}, {7, 9, 6, 8}} {
		for _, preds := range [][]int{{1, 2, 3, 4, 5}, {5, 4, 3, 2, 1}, {3, 5, 1, 4, 2}} {
			full := func() both {
				b := newBoth(t)
				for _, id := range ids {
					b.add(id, preds...)
				}
				return b
			}
			b := full()
			b.hold([]int{1, 2, 3, 4, 5, 6, 7, 8, 9, 10})
			for _, p := range preds {
				b.done(p)
				b.hold([]int{1, 2, 3, 4, 5, 6, 7, 8, 9, 10})
			}
			b = full()
			b.add(10, ids...)
			if got := b.d.Kill(preds[0]); !slices.Equal(got, []int{6, 7, 8, 9, 10}) {
				t.Fatal("Kill =", got)
			}
		}
	}
}

// 14.1: what is gone can be Added again, and waits for what it is Added with then.
func TestAgain(t *testing.T) {
	b := newBoth(t)
	b.add(4, 1, 2)
	b.done(1)
	b.add(4, 3)
	b.done(2)
	b.add(4, 1, 3)
	b.hold(few)
	b.done(2)
	b.hold(few)
	b.kill(1)
	b.add(4, 1)
	b.hold(few)
	b.done(3)
	b.done(1)
	b.hold(few)
}

// subset is the numbers from 1 on whose bits of a mask are 1.
func subset(mask int) []int {
	var out []int
	for p := 1; mask > 0; p, mask = p+1, mask>>1 {
		if mask&1 == 1 {
			out = append(out, p)
		}
	}
	return out
}

// calls is every call on the ids 1 to n.
func calls(n int) []func(both) {
	var out []func(both)
	for id := 1; id <= n; id++ {
		out = append(out, func(b both) { b.done(id) }, func(b both) { b.kill(id) })
		for mask := 1; mask < 1<<(id-1); mask++ {
			preds := subset(mask)
			out = append(out, func(b both) { b.add(id, preds...) })
		}
	}
	return out
}

// rows hands over every row of so many calls.
func rows(of []func(both), long int, play func([]func(both))) {
	row := make([]func(both), long)
	var fill func(at int)
	fill = func(at int) {
		if at == long {
			play(row)
			return
		}
		for _, c := range of {
			row[at] = c
			fill(at + 1)
		}
	}
	fill(0)
}

// 14.1: every row of four calls on four ids, from the beginning.
func TestEveryRow(t *testing.T) {
	for long := 1; long <= 4; long++ {
		rows(calls(4), long, func(row []func(both)) {
			b := newBoth(t)
			for _, c := range row {
				c(b)
			}
			b.hold(few)
		})
	}
}

// graphs is, for every way in which n ids can wait for lesser ones, the masks of what each waits for.
func graphs(n int, each func(masks []int)) {
	masks := make([]int, n+1)
	var fill func(id int)
	fill = func(id int) {
		if id > n {
			each(masks)
			return
		}
		for masks[id] = 0; masks[id] < 1<<(id-1); masks[id]++ {
			fill(id + 1)
		}
	}
	fill(1)
}

// 14.1: every two calls from every way in which four ids can wait; and every Done and Kill, two of them, where they are five.
func TestEveryGraph(t *testing.T) {
	from := func(masks []int) both {
		b := newBoth(t)
		for id := len(masks) - 1; id > 0; id-- {
			b.add(id, subset(masks[id])...)
		}
		return b
	}
	graphs(4, func(masks []int) {
		from(masks).hold(few)
		rows(calls(4), 2, func(row []func(both)) {
			b := from(masks)
			row[0](b)
			row[1](b)
			b.hold(few)
		})
	})
	var ends []func(both)
	for id := 1; id <= 5; id++ {
		ends = append(ends, func(b both) { b.done(id) }, func(b both) { b.kill(id) })
	}
	graphs(5, func(masks []int) {
		rows(ends, 2, func(row []func(both)) {
			b := from(masks)
			row[0](b)
			row[1](b)
			b.hold(few)
		})
	})
}

// draws is a row of numbers that looks like none.
func draws(state uint64) func(n int) int {
	return func(n int) int {
		state ^= state << 13
		state ^= state >> 7
		state ^= state << 17
		return int(state >> 11 % uint64(n))
	}
}

// step plays one call that the draws say.
func (b both) step(draw func(n int) int, most int) {
	switch kind := draw(10); {
	case kind < 7:
		id := 1 + draw(most)
		var preds []int
		for n := draw(6); n > 0; n-- {
			preds = append(preds, 1+draw(id))
		}
		b.add(id, preds...)
	case kind < 9:
		b.done(1 + draw(most))
	default:
		b.kill(1 + draw(most))
	}
}

// 14.1: long rows of calls, on few ids and on many.
func TestLongRows(t *testing.T) {
	for seed := uint64(1); seed <= 30; seed++ {
		draw := draws(seed * 0x9e3779b97f4a7c15)
		b := newBoth(t)
		most := []int{5, 12, 40}[seed%3]
		var ids []int
		for id := 0; id <= most+1; id++ {
			ids = append(ids, id)
		}
		for range 600 {
			b.step(draw, most)
			b.hold(ids)
		}
	}
}

// tally is how a task was told, and how often.
type tally struct {
	freed, killed int
	over          byte // 'd' done, 'k' killed
}

// run plays a graph to its end: what may run is picked, and is done or, where fails says so, killed.
func run(t *testing.T, masks []int, fails int, pick func([]int) int) {
	d := dag.New()
	tallies := make([]tally, len(masks))
	var ready []int
	for id := 1; id < len(masks); id++ {
		if n, _ := d.Add(id, subset(masks[id])); n == 0 {
			ready = append(ready, id)
		}
	}
	for len(ready) > 0 {
		at := pick(ready)
		id := ready[at]
		ready = slices.Delete(ready, at, at+1)
		if fails>>id&1 == 1 {
			tallies[id].over = 'k'
			for _, next := range d.Kill(id) {
				tallies[next].killed++
				tallies[next].over = 'k'
			}
			continue
		}
		tallies[id].over = 'd'
		for _, next := range d.Done(id) {
			tallies[next].freed++
			ready = append(ready, next)
			for _, pred := range subset(masks[next]) {
				if tallies[pred].over != 'd' {
					t.Fatalf("%v, %b fail: %d is told ahead of %d's being done", masks, fails, next, pred)
				}
			}
		}
	}
	holdTallies(t, masks, fails, tallies)
	if d.Len() != 0 {
		t.Fatalf("%v, %b fail: at the end %d wait", masks, fails, d.Len())
	}
}

// holdTallies: whoever waited is told once, by a Kill if something that it waited for was killed.
func holdTallies(t *testing.T, masks []int, fails int, tallies []tally) {
	for id := 1; id < len(masks); id++ {
		x, preds, lost := tallies[id], subset(masks[id]), 0
		for _, pred := range preds {
			if tallies[pred].over == 'k' {
				lost = 1
			}
		}
		freed := 1 - lost
		if len(preds) == 0 {
			freed = 0
		}
		if x.freed != freed || x.killed != lost || x.over == 0 {
			t.Fatalf("%v, %b fail: %d is freed %d times and killed %d times, want %d, %d", masks, fails, id, x.freed, x.killed, freed, lost)
		}
	}
}

// 14.2, W2: in every graph of five, whichever of them fail, in several orders: each is told once, by Done not ahead of all that it waits for, or by Kill.
func TestEachIsToldOnce(t *testing.T) {
	draw := draws(88172645463325252)
	picks := []func([]int) int{
		func(l []int) int { return 0 },
		func(l []int) int { return len(l) - 1 },
		func(l []int) int { return draw(len(l)) },
	}
	graphs(5, func(masks []int) {
		for fails := 0; fails < 1<<6; fails += 2 {
			for _, pick := range picks {
				run(t, masks, fails, pick)
			}
		}
	})
}

// 14.2: what was told by Kill is not told by a later Done, nor the other way round.
func TestNotToldAgain(t *testing.T) {
	d := dag.New()
	d.Add(3, []int{1, 2})
	d.Add(4, []int{2, 3})
	if got := d.Kill(1); !slices.Equal(got, []int{3, 4}) {
		t.Fatal("Kill(1) =", got)
	}
	for _, id := range []int{1, 2, 3, 4} {
		if got := append(d.Done(id), d.Kill(id)...); len(got) != 0 {
			t.Fatal(id, "tells", got)
		}
	}
	d.Add(3, []int{1, 2})
	d.Done(2)
	if got := d.Done(1); !slices.Equal(got, []int{3}) {
		t.Fatal("Done(1) =", got)
	}
	for _, id := range []int{1, 2, 3, 4} {
		if got := append(d.Kill(id), d.Done(id)...); len(got) != 0 {
			t.Fatal(id, "tells", got)
		}
	}
}

// spoil overwrites a list and its spare room.
func spoil(l []int) {
	l = l[:cap(l)]
	for i := range l {
		l[i] = -77
	}
}

// 14.1: what is answered is new memory, its spare room too.
func TestAnswersAreNew(t *testing.T) {
	for seed := uint64(1); seed <= 10; seed++ {
		draw := draws(seed * 0x2545f4914f6cdd1d)
		b := newBoth(t)
		for range 200 {
			b.step(draw, 9)
			id := 1 + draw(9)
			spoil(b.d.Waits(id))
			spoil(b.d.Behind(id))
			b.m.done(id)
			spoil(b.d.Done(id))
			id = 1 + draw(9)
			b.m.kill(id)
			spoil(b.d.Kill(id))
			b.hold(few)
		}
	}
}

// 14.1: the list of preds is not changed, nor its spare room, and it is not kept.
func TestPredsAreLeft(t *testing.T) {
	for _, id := range []int{9, 4} {
		room := []int{5, 3, 7, 3, 1, 8, 6, 2}
		d := dag.New()
		d.Add(id, room[:5])
		d.Add(id, room[:5])
		if !slices.Equal(room, []int{5, 3, 7, 3, 1, 8, 6, 2}) {
			t.Fatal("changed:", room)
		}
		want := d.Waits(id)
		spoil(room)
		if got := d.Waits(id); !slices.Equal(got, want) {
			t.Fatal("kept:", got)
		}
	}
}

// 14.1: two of them have nothing in common.
func TestTwo(t *testing.T) {
	a, b := newBoth(t), newBoth(t)
	a.add(3, 1, 2)
	b.add(4, 1, 3)
	a.kill(1)
	a.hold(few)
	b.hold(few)
	b.done(1)
	a.add(4, 2)
	a.hold(few)
	b.hold(few)
}

// 14.3: any numbers are answered.
func TestRawNumbers(t *testing.T) {
	b := newBoth(t)
	for _, id := range raw {
		for _, p := range raw {
			for _, q := range raw {
				b.add(id, p, q)
				b.add(id, q)
			}
			b.done(p)
			b.hold(raw)
		}
		b.kill(id)
		b.hold(raw)
	}
}

// 14.3: a long chain ends, link by link and at once.
func TestLongChain(t *testing.T) {
	const n = 50000
	d := dag.New()
	chain := func() {
		for id := 2; id <= n; id++ {
			d.Add(id, []int{id - 1})
		}
	}
	chain()
	for id := 1; id < n; id++ {
		if got := d.Done(id); len(got) != 1 || got[0] != id+1 {
			t.Fatalf("Done(%d) = %v", id, got)
		}
	}
	chain()
	if got := d.Kill(1); len(got) != n-1 || got[0] != 2 || got[n-2] != n || d.Len() != 0 {
		t.Fatal("Kill(1):", len(got), d.Len())
	}
}

// 14.3: many behind one end, and one behind many.
func TestMany(t *testing.T) {
	const n = 50000
	d := dag.New()
	for id := 2; id <= n; id++ {
		d.Add(id, []int{1})
	}
	for id := 2; id < n; id++ {
		if got := d.Kill(id); len(got) != 0 || d.Len() != n-id {
			t.Fatal(id, got, d.Len())
		}
	}
	if got := d.Done(1); !slices.Equal(got, []int{n}) {
		t.Fatal("Done(1) =", got)
	}
	var preds []int
	for id := n - 1; id > 0; id-- {
		preds = append(preds, id, id)
	}
	if got, e := d.Add(n, preds); got != n-1 || e != api.OK {
		t.Fatal("Add =", got, e)
	}
	for id := 1; id < n-1; id++ {
		if got := d.Done(id); len(got) != 0 {
			t.Fatal(id, got)
		}
	}
	if got := d.Done(n - 1); !slices.Equal(got, []int{n}) {
		t.Fatal("the last tells", got)
	}
}

// 14.3: where everyone waits for all that are less, each is taken out once.
func TestDense(t *testing.T) {
	const n = 400
	d := dag.New()
	for id := 1; id <= n; id++ {
		var preds []int
		for p := 1; p < id; p++ {
			preds = append(preds, p)
		}
		d.Add(id, preds)
	}
	if got := d.Kill(200); len(got) != 200 || got[0] != 201 || d.Len() != 198 {
		t.Fatal(len(got), d.Len())
	}
	if got := d.Kill(1); len(got) != 198 || d.Len() != 0 {
		t.Fatal(len(got), d.Len())
	}
}

// 14.3: any row of calls is answered, as the model does.
func FuzzCalls(f *testing.F) {
	f.Add([]byte{0, 3, 1, 2, 2, 1, 1})
	f.Add([]byte{9, 200, 77, 31, 5, 5, 5, 0, 255})
	f.Fuzz(func(t *testing.T, data []byte) {
		b := newBoth(t)
		at := 0
		draw := func(n int) int {
			if at == len(data) {
				return 0
			}
			at++
			return int(data[at-1]) % n
		}
		for at < len(data) {
			b.step(draw, 8)
			b.hold(few)
		}
	})
}
