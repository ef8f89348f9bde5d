package shared_test

import (
	"math"
	"math/bits"
	"slices"
	"sort"
	"testing"

	"verger/api"
	"verger/block"
	"verger/shared"
)

// mark is what stands in spare room, and what is written over an answer; no list of a test has it.
var mark = api.Entry{Key: 4321, ID: 4321}

// some are entries of one Key and of unlike ones, of one ID and of unlike ones, and both ends.
var some = []api.Entry{
	{Key: 3, ID: 2},
	{Key: 8, ID: 2},
	{Key: 3, ID: -1},
	{Key: 0, ID: math.MinInt},
	{Key: math.MaxUint64, ID: math.MaxInt},
}

// ids are asked for by Drop: those of some, and others.
var ids = []int{2, -1, math.MinInt, math.MaxInt, 0, 7}

// inOrder is what the lists have, by Key, then by ID; it does not lean on the layers below.
func inOrder(lists ...[]api.Entry) []api.Entry {
	all := slices.Concat(lists...)
	sort.SliceStable(all, func(i, j int) bool {
		return all[i].Key < all[j].Key || all[i].Key == all[j].Key && all[i].ID < all[j].ID
	})
	return all
}

// level is the level of n, by another way than block's.
func level(n int) int {
	if n < 2 {
		return 0
	}
	return bits.Len(uint(n) - 1)
}

// model is what a Shared has to be: lists alone, as a level follows from a length.
type model struct {
	version uint64
	lists   [][]api.Entry
}

// out takes list i out and answers it.
func (m *model) out(i int) []api.Entry {
	l := m.lists[i]
	m.lists = slices.Concat(m.lists[:i], m.lists[i+1:])
	return l
}

// in brings l in at i.
func (m *model) in(i int, l []api.Entry) {
	m.lists = slices.Concat(m.lists[:i], [][]api.Entry{l}, m.lists[i:])
}

func (m *model) add(l []api.Entry) {
	if len(l) == 0 {
		return
	}
	m.version++
	for i := 0; i < len(m.lists); i++ {
		if level(len(m.lists[i])) == level(len(l)) {
			l = inOrder(m.out(i), l)
			i = -1
		}
	}
	at := 0
	for at < len(m.lists) && level(len(m.lists[at])) >= level(len(l)) {
		at++
	}
	m.in(at, inOrder(l))
}

func (m *model) drop(id int) bool {
	for i, l := range m.lists {
		var left []api.Entry
		for _, e := range l {
			if e.ID != id {
				left = append(left, e)
			}
		}
		if len(left) == len(l) {
			continue
		}
		m.version++
		m.out(i)
		if left != nil {
			m.in(i, left)
		}
		return true
	}
	return false
}

func (m *model) swap(lists ...[]api.Entry) {
	m.version++
	m.lists = nil
	for _, l := range lists {
		m.lists = append(m.lists, inOrder(l))
	}
}

// like tells whether a Snap is what the model says.
func (m *model) like(x shared.Snap) bool {
	return x.Version == m.version && slices.EqualFunc(x.Blocks, m.lists, func(b block.Block, l []api.Entry) bool {
		return slices.Equal(b.L, l) && b.Level == level(len(l))
	})
}

// same holds all that can be asked of s against the model.
func same(t *testing.T, s *shared.Shared, want *model) {
	t.Helper()
	if x := s.Snap(); !want.like(x) {
		t.Fatalf("Snap() = %v, want %v", x, *want)
	}
	all := inOrder(want.lists...)
	if got := s.All(); !slices.Equal(got, all) {
		t.Fatalf("All() = %v, want %v", got, all)
	}
	if got := s.Len(); got != len(all) {
		t.Fatalf("Len() = %d, want %d", got, len(all))
	}
	for _, n := range []int{-1, 0, 1, 2, len(all) - 1, len(all), len(all) + 1} {
		if got := s.First(n); !slices.Equal(got, all[:min(max(n, 0), len(all))]) {
			t.Fatalf("First(%d) = %v, of %v", n, got, all)
		}
	}
}

// blocks are the lists as blocks.
func blocks(lists ...[]api.Entry) []block.Block {
	var out []block.Block
	for _, l := range lists {
		out = append(out, block.Of(l))
	}
	return out
}

// of is a Shared of version 1 that has just these lists as blocks, and the model of it.
func of(t *testing.T, lists ...[]api.Entry) (*shared.Shared, *model) {
	t.Helper()
	s, want := shared.New(), &model{}
	want.swap(lists...)
	if !s.Swap(0, blocks(lists...)) {
		t.Fatalf("Swap(0, %v) = false", lists)
	}
	return s, want
}

// run is entries of the IDs from to to, each of the Key 10 times its ID.
func run(from, to int) []api.Entry {
	var l []api.Entry
	for id := from; id <= to; id++ {
		l = append(l, api.Entry{Key: uint64(10 * id), ID: id})
	}
	return l
}

// mixed is a list of n in no order, with IDs below ids in no order as well.
func mixed(n, ids int) []api.Entry {
	l := make([]api.Entry, n)
	at := uint64(n)
	for i := range l {
		at = at*6364136223846793005 + 1442695040888963407
		l[i] = api.Entry{Key: at >> 58, ID: int(at>>40) % ids}
	}
	return l
}

// spoil writes over an answer and its spare room, so that who shares it is found out.
func spoil(l []api.Entry) {
	for i := range l[:cap(l)] {
		l[:cap(l)][i] = mark
	}
}

// spoilBlocks writes over blocks, what they have, and the spare room of both.
func spoilBlocks(blocks []block.Block) {
	for i := range blocks {
		spoil(blocks[i].L)
	}
	for i := range blocks[:cap(blocks)] {
		blocks[:cap(blocks)][i] = block.Block{Level: 9, L: []api.Entry{mark}}
	}
}

// 8.1: a new one is empty, of version 0, and answers zero values beside false.
func TestNew(t *testing.T) {
	s := shared.New()
	same(t, s, &model{})
	for _, id := range ids {
		if s.Drop(id) {
			t.Errorf("an empty one dropped %d", id)
		}
	}
	for _, k := range []int{math.MinInt, -1, 0, 1, 16, math.MaxInt - 1, math.MaxInt} {
		for _, draw := range []uint64{0, 1, math.MaxUint64} {
			if e, ok := s.Candidate(k, draw); e != (api.Entry{}) || ok {
				t.Errorf("Candidate(%d, %d) = %v, %v", k, draw, e, ok)
			}
		}
	}
	s.Add(nil)
	s.Add([]api.Entry{})
	same(t, s, &model{})
}

// 8.1: only who names the version that there is now may swap; the version rises by one each time, even if the blocks stay as they were.
func TestSwapVersion(t *testing.T) {
	s, want := shared.New(), &model{}
	lists := [][]api.Entry{run(1, 3), run(4, 4)}
	for version := range uint64(20) {
		for _, old := range []uint64{version - 1, version + 1, version + 1<<32, version ^ 1<<63, ^version} {
			if s.Swap(old, blocks(run(7, 9))) || s.Swap(old, nil) {
				t.Fatalf("version %d was swapped by who had seen %d", version, old)
			}
			same(t, s, want)
		}
		if !s.Swap(version, blocks(lists...)) {
			t.Fatalf("Swap(%d, ..) = false at that version", version)
		}
		want.swap(lists...)
		same(t, s, want)
	}
}

// 8.1: blocks that are Ok are taken as they stand: in any order of levels, alike, empty, with the same entries, or none at all.
func TestSwapOk(t *testing.T) {
	for _, lists := range [][][]api.Entry{
		nil,
		{nil},
		{nil, nil, run(1, 1), nil},
		{run(1, 1), run(2, 2)},
		{run(1, 1), run(2, 3), run(4, 8)},
		{run(4, 8), run(2, 3), run(1, 1)},
		{run(1, 3), run(1, 3), run(1, 4)},
		{some, some[:1], mixed(33, 9), nil, mixed(64, 2)},
	} {
		s, want := of(t, lists...)
		same(t, s, want)
		if !s.Swap(1, nil) {
			t.Fatal("no blocks were not taken")
		}
		same(t, s, &model{version: 2})
	}
}

// 8.1: one block that is not Ok, wherever it stands, and nothing is changed.
func TestSwapNotOk(t *testing.T) {
	a, b, c := some[3], some[0], some[1]
	for i, bad := range []block.Block{
		{Level: 1},
		{Level: 62},
		{Level: 63},
		{Level: -1},
		{Level: math.MinInt},
		{Level: math.MaxInt},
		{Level: -1, L: []api.Entry{a}},
		{Level: 1, L: []api.Entry{a}},
		{Level: 0, L: []api.Entry{a, b}},
		{Level: 2, L: []api.Entry{a, b}},
		{Level: 1, L: []api.Entry{b, a}},
		{Level: 1, L: []api.Entry{a, b, c}},
		{Level: 2, L: []api.Entry{a, c, b}},
		{Level: 64, L: []api.Entry{a, b, c}},
	} {
		s, want := of(t, run(1, 3), run(4, 4))
		for at := range 4 {
			row := slices.Insert(blocks(run(5, 6), nil, run(7, 7)), at, bad)
			if s.Swap(1, row) || s.Swap(0, row) {
				t.Fatalf("row %d: %v at %d was taken", i, bad, at)
			}
			same(t, s, want)
		}
		if s.Swap(1, []block.Block{bad}) {
			t.Fatalf("row %d: %v was taken", i, bad)
		}
		same(t, s, want)
	}
}

// 8.1: what is handed to Swap stays, its spare room too, and is not kept: neither the list of blocks nor what they have. It is written over at once, as a later call could make a copy of it.
func TestSwapKeepsNothing(t *testing.T) {
	lists := [][]api.Entry{run(1, 3), nil, run(4, 4), run(5, 9)}
	behind := [][]api.Entry{run(8, 8), run(9, 9)}
	for _, later := range []func(*shared.Shared){
		func(s *shared.Shared) {},
		func(s *shared.Shared) { s.Drop(2) },
		func(s *shared.Shared) { s.Drop(4) },
		func(s *shared.Shared) { s.Add(run(20, 20)) },
		func(s *shared.Shared) { s.Candidate(3, 2); s.All() },
	} {
		room := blocks(slices.Concat(lists, behind)...)
		for i, b := range room {
			room[i].L = append(slices.Clone(b.L), mark)[:len(b.L)]
		}
		s, want := shared.New(), &model{}
		if !s.Swap(0, room[:len(lists)]) {
			t.Fatal("Swap = false")
		}
		want.swap(lists...)
		later(s)
		for i, l := range slices.Concat(lists, behind) {
			b := room[i]
			if b.Level != level(len(l)) || !slices.Equal(b.L, l) || b.L[:len(l)+1][len(l)] != mark {
				t.Fatalf("block %d of what was handed in is %v", i, b)
			}
		}
		s = shared.New()
		s.Swap(0, room[:len(lists)])
		spoilBlocks(room)
		same(t, s, want)
	}
}

// 8.1: one block handed in twice is two, of which each changes alone.
func TestSwapTwice(t *testing.T) {
	s, want := shared.New(), &model{}
	b := block.Of(run(1, 4))
	if !s.Swap(0, []block.Block{b, b}) {
		t.Fatal("Swap = false")
	}
	want.swap(run(1, 4), run(1, 4))
	for range 2 {
		if !s.Drop(2) {
			t.Fatal("Drop(2) = false")
		}
		want.drop(2)
		same(t, s, want)
	}
	if s.Drop(2) {
		t.Error("Drop(2) = true, of none")
	}
}

// 8.1: the first block of a level is merged, again as long as there is one, and what was made stands ahead of the first of a lesser level.
func TestAdd(t *testing.T) {
	a, b, c, d := run(1, 1), run(2, 2), run(3, 3), run(4, 4)
	three, four, six := run(11, 13), run(21, 24), run(31, 36)
	for i, x := range []struct {
		have [][]api.Entry
		l    []api.Entry
		want [][]api.Entry
	}{
		{nil, a, [][]api.Entry{a}},
		{nil, []api.Entry{c[0], a[0], b[0]}, [][]api.Entry{run(1, 3)}},
		{[][]api.Entry{a}, b, [][]api.Entry{run(1, 2)}},
		{[][]api.Entry{b}, a, [][]api.Entry{run(1, 2)}},
		{[][]api.Entry{a}, a, [][]api.Entry{{a[0], a[0]}}},
		{[][]api.Entry{run(1, 2)}, c, [][]api.Entry{run(1, 2), c}},
		{[][]api.Entry{c}, run(1, 2), [][]api.Entry{run(1, 2), c}},
		{[][]api.Entry{run(1, 2), c}, d, [][]api.Entry{run(1, 4)}},
		{[][]api.Entry{c, run(1, 2)}, d, [][]api.Entry{run(1, 4)}},
		{[][]api.Entry{three, run(1, 2), c}, d, [][]api.Entry{slices.Concat(run(1, 4), three)}},
		{[][]api.Entry{six, run(1, 2), c}, d, [][]api.Entry{six, run(1, 4)}},
		{[][]api.Entry{a, b}, c, [][]api.Entry{{a[0], c[0]}, b}},
		{[][]api.Entry{b, a}, c, [][]api.Entry{{b[0], c[0]}, a}},
		{[][]api.Entry{a, b, run(5, 6)}, c, [][]api.Entry{slices.Concat(a, c, run(5, 6)), b}},
		{[][]api.Entry{a, three, b}, c, [][]api.Entry{three, {a[0], c[0]}, b}},
		{[][]api.Entry{a, three, b}, run(5, 6), [][]api.Entry{run(5, 6), a, three, b}},
		{[][]api.Entry{three, a, four}, run(5, 6), [][]api.Entry{three, run(5, 6), a, four}},
		{[][]api.Entry{three, four, a}, run(5, 6), [][]api.Entry{three, four, run(5, 6), a}},
		{[][]api.Entry{three, four}, a, [][]api.Entry{three, four, a}},
		{[][]api.Entry{three, four, a}, run(41, 43), [][]api.Entry{slices.Concat(three, run(41, 43)), four, a}},
		{[][]api.Entry{six, three}, run(41, 52), [][]api.Entry{run(41, 52), six, three}},
		{[][]api.Entry{nil}, a, [][]api.Entry{a}},
		{[][]api.Entry{nil, nil, b}, a, [][]api.Entry{run(1, 2)}},
		{[][]api.Entry{b, nil, nil}, a, [][]api.Entry{run(1, 2), nil, nil}},
		{[][]api.Entry{nil, c, nil, run(1, 2)}, d, [][]api.Entry{run(1, 4), nil}},
		{[][]api.Entry{nil, nil}, run(1, 2), [][]api.Entry{run(1, 2), nil, nil}},
		{[][]api.Entry{nil, a}, nil, [][]api.Entry{nil, a}},
	} {
		s, _ := of(t, x.have...)
		s.Add(x.l)
		want := &model{version: 1, lists: x.want}
		if len(x.l) > 0 {
			want.version = 2
		}
		if got := s.Snap(); !want.like(got) {
			t.Errorf("row %d: Snap() = %v, want %v", i, got, *want)
		}
	}
}

// 8.1: lists of each length upon each other; each of them is in order then, and none is lost.
func TestAddLengths(t *testing.T) {
	for n := range 20 {
		for m := range 20 {
			s, want := shared.New(), &model{}
			for _, l := range [][]api.Entry{mixed(n, 5), mixed(m, 5), mixed(n+m, 3), mixed(1, 2)} {
				s.Add(l)
				want.add(l)
				same(t, s, want)
			}
		}
	}
}

// 8.1: what is handed to Add stays, its spare room too, and is not kept.
func TestAddKeepsNothing(t *testing.T) {
	for n := range 20 {
		room := append(mixed(n, 9), mark, mark)
		kept := slices.Clone(room)
		s, want := of(t, run(1, 1), run(2, 4))
		s.Add(room[:n])
		want.add(kept[:n])
		s.Add(run(5, 5))
		want.add(run(5, 5))
		if !slices.Equal(room, kept) {
			t.Fatalf("%v was turned into %v", kept, room)
		}
		spoil(room)
		same(t, s, want)
	}
}

// 8.1: the first block that has the ID loses all of it, and stays where it stood, though its level may fall; the others stay as they are.
func TestDrop(t *testing.T) {
	a, b := run(1, 1), run(2, 2)
	nine := []api.Entry{{Key: 1, ID: 9}, {Key: 5, ID: 9}, {Key: 70, ID: 9}}
	for i, x := range []struct {
		have [][]api.Entry
		id   int
		want [][]api.Entry
	}{
		{[][]api.Entry{a}, 1, nil},
		{[][]api.Entry{a, b}, 1, [][]api.Entry{b}},
		{[][]api.Entry{a, b}, 2, [][]api.Entry{a}},
		{[][]api.Entry{a, a}, 1, [][]api.Entry{a}},
		{[][]api.Entry{nine}, 9, nil},
		{[][]api.Entry{nine, nine, b}, 9, [][]api.Entry{nine, b}},
		{[][]api.Entry{a, slices.Concat(nine[:2], b, nine[2:]), nine}, 9, [][]api.Entry{a, b, nine}},
		{[][]api.Entry{slices.Concat(nine[:2], run(1, 6)), a}, 9, [][]api.Entry{run(1, 6), a}},
		{[][]api.Entry{slices.Concat(nine[:2], run(1, 4)), run(5, 7)}, 9, [][]api.Entry{run(1, 4), run(5, 7)}},
		{[][]api.Entry{run(1, 3), run(4, 5)}, 1, [][]api.Entry{run(2, 3), run(4, 5)}},
		{[][]api.Entry{run(4, 5), run(1, 3)}, 3, [][]api.Entry{run(4, 5), run(1, 2)}},
		{[][]api.Entry{slices.Concat(nine, run(1, 1), run(8, 8)), run(2, 4)}, 9, [][]api.Entry{{a[0], run(8, 8)[0]}, run(2, 4)}},
		{[][]api.Entry{nil, a, nil}, 1, [][]api.Entry{nil, nil}},
		{[][]api.Entry{some}, math.MinInt, [][]api.Entry{slices.Concat(some[:3], some[4:])}},
		{[][]api.Entry{some}, math.MaxInt, [][]api.Entry{some[:4]}},
	} {
		s, _ := of(t, x.have...)
		if !s.Drop(x.id) {
			t.Errorf("row %d: Drop(%d) = false", i, x.id)
		}
		want := &model{}
		want.swap(x.want...)
		want.version++
		if got := s.Snap(); !want.like(got) {
			t.Errorf("row %d: Snap() = %v, want %v", i, got, *want)
		}
	}
}

// 8.1: where none has the ID, nothing is changed, the version neither.
func TestDropNone(t *testing.T) {
	s, want := of(t, run(1, 3), nil, run(4, 4))
	for _, id := range []int{math.MinInt, -1, 0, 5, 10, 40, math.MaxInt} {
		if s.Drop(id) {
			t.Errorf("Drop(%d) = true", id)
		}
		same(t, s, want)
	}
}

// W2: what is in once is dropped once, and whoever looked ahead of that can't swap it in again.
func TestOnce(t *testing.T) {
	s, _ := of(t, run(1, 4), run(5, 6), run(7, 7))
	for id := 1; id <= 7; id++ {
		before := s.Snap()
		if !s.Drop(id) {
			t.Fatalf("Drop(%d) = false", id)
		}
		if s.Swap(before.Version, before.Blocks) {
			t.Fatalf("what was ahead of Drop(%d) was swapped in", id)
		}
		for gone := 1; gone <= id; gone++ {
			if s.Drop(gone) {
				t.Fatalf("%d was dropped once more", gone)
			}
		}
		if s.Len() != 7-id {
			t.Fatalf("Len() = %d behind Drop(%d)", s.Len(), id)
		}
	}
	same(t, s, &model{version: 8})
}

// 8.1: the least of all blocks, in order, whichever of them has them.
func TestFirst(t *testing.T) {
	for _, lists := range [][][]api.Entry{
		{run(1, 1)},
		{run(5, 9), run(1, 4)},
		{mixed(9, 4), nil, mixed(17, 4), mixed(2, 4), some},
		{run(1, 3), run(1, 3), run(1, 3)},
	} {
		s, want := of(t, lists...)
		all := inOrder(lists...)
		for n := range len(all) + 3 {
			if got := s.First(n); !slices.Equal(got, all[:min(n, len(all))]) {
				t.Errorf("First(%d) = %v, of %v", n, got, all)
			}
		}
		for _, n := range []int{math.MinInt, math.MinInt + 1, -1} {
			if got := s.First(n); len(got) != 0 {
				t.Errorf("First(%d) = %v", n, got)
			}
		}
		for _, n := range []int{len(all) + 1, math.MaxInt - 1, math.MaxInt} {
			if got := s.First(n); !slices.Equal(got, all) {
				t.Errorf("First(%d) = %v, of %v", n, got, all)
			}
		}
		same(t, s, want)
	}
}

// 8.1, W4: of the k + 1 least the one that the draw says; so each of them can be drawn, and at most k are less.
func TestCandidate(t *testing.T) {
	for n := 1; n < 24; n++ {
		l := mixed(n, 50)
		s, want := of(t, l[:n/2], l[n/2:])
		all := inOrder(l)
		for _, k := range []int{math.MinInt, -1, 0, 1, 2, 5, 16, n - 2, n - 1, n, n + 1, math.MaxInt - 1, math.MaxInt} {
			many := uint64(max(k, 0))
			many = min(many+1, uint64(n))
			for _, draw := range []uint64{0, 1, 2, 3, 7, many - 1, many, many + 1, 1 << 31, 1<<32 + 5, 1 << 63, 1<<63 + 1, math.MaxUint64 - 1, math.MaxUint64} {
				e, ok := s.Candidate(k, draw)
				if e != all[draw%many] || !ok {
					t.Fatalf("Candidate(%d, %d) = %v, %v, of %v", k, draw, e, ok, all)
				}
				if less := slices.Index(all, e); less > max(k, 0) {
					t.Fatalf("Candidate(%d, %d) = %v: %d are less", k, draw, e, less)
				}
			}
		}
		same(t, s, want)
	}
}

// 8.1: an entry of zeros is one; nothing but empty blocks is none.
func TestCandidateEdges(t *testing.T) {
	s, _ := of(t, []api.Entry{{}}, nil)
	if e, ok := s.Candidate(3, 9); e != (api.Entry{}) || !ok {
		t.Errorf("Candidate of one of zeros = %v, %v", e, ok)
	}
	s, _ = of(t, nil, nil)
	if e, ok := s.Candidate(3, 9); e != (api.Entry{}) || ok {
		t.Errorf("Candidate of empty blocks = %v, %v", e, ok)
	}
	s = shared.New()
	s.Add([]api.Entry{some[1], some[0], some[2]})
	for _, draw := range []uint64{0, 1, 2, 99, math.MaxUint64} {
		if e, ok := s.Candidate(0, draw); e != some[2] || !ok {
			t.Errorf("Candidate(0, %d) = %v, %v, want the least", draw, e, ok)
		}
	}
}

// 8.2: a Snap stays what it was, whatever is done to what it was taken of, or to another Snap.
func TestSnapStays(t *testing.T) {
	s, now := of(t, run(1, 3), nil, run(4, 4), run(5, 9))
	var snaps []shared.Snap
	var wants []model
	keep := func() {
		snaps = append(snaps, s.Snap())
		wants = append(wants, *now)
		spoilBlocks(s.Snap().Blocks)
	}
	keep()
	for i, e := range mixed(300, 12) {
		switch i % 5 {
		case 0, 1, 2:
			s.Add(mixed(i%7, 12))
			now.add(mixed(i%7, 12))
		case 3:
			s.Drop(e.ID)
			now.drop(e.ID)
		case 4:
			s.Swap(now.version, blocks(run(1, i%9), nil, mixed(i%4, 12)))
			now.swap(run(1, i%9), nil, mixed(i%4, 12))
		}
		keep()
	}
	for i, x := range snaps {
		if !wants[i].like(x) {
			t.Fatalf("Snap %d is %v now, and was %v", i, x, wants[i])
		}
	}
}

// 8.1, 8.2: what is answered is nobody else's, its spare room too, and no two lists of a Snap share any.
func TestAnswersAreNew(t *testing.T) {
	for n := range 20 {
		s, want := of(t, mixed(n, 9), nil, mixed(n/2, 9), mixed(n+1, 9))
		spoilBlocks(s.Snap().Blocks)
		spoil(s.All())
		spoil(s.First(n))
		spoil(s.First(math.MaxInt))
		same(t, s, want)
		x := s.Snap()
		for i := range x.Blocks {
			spoil(x.Blocks[i].L)
			for j := i + 1; j < len(x.Blocks); j++ {
				if !slices.Equal(x.Blocks[j].L, want.lists[j]) {
					t.Fatalf("block %d shares with block %d", j, i)
				}
			}
		}
		same(t, s, want)
	}
}

// 8.1: a Snap can be swapped in again, and taken by another one.
func TestSnapAndSwap(t *testing.T) {
	s, want := of(t, run(1, 1), mixed(9, 4), nil, some)
	x := s.Snap()
	if !s.Swap(x.Version, x.Blocks) {
		t.Fatal("a Snap was not taken again")
	}
	want.version++
	same(t, s, want)
	other := shared.New()
	if !other.Swap(0, x.Blocks) {
		t.Fatal("a Snap was not taken by another")
	}
	other.Drop(1)
	other.Add(run(2, 3))
	same(t, s, want)
	if !(&model{version: 1, lists: want.lists}).like(x) {
		t.Errorf("the Snap turned into %v", x)
	}
}

// play does to both what the number says: an Add of one, an Add of two, a Drop, or a Swap; it tells whether they answered alike.
func play(s *shared.Shared, want *model, at int) bool {
	a, b := some[at%len(some)], some[(at+1)%len(some)]
	switch at / len(some) {
	case 0:
		s.Add([]api.Entry{a})
		want.add([]api.Entry{a})
	case 1:
		s.Add([]api.Entry{a, b})
		want.add([]api.Entry{a, b})
	case 2:
		id := ids[at%len(some)]
		return s.Drop(id) == want.drop(id)
	default:
		lists := [][]api.Entry{{a}, nil, {b, a}, {b}}[:at%len(some)]
		ok := s.Swap(want.version, blocks(lists...))
		want.swap(lists...)
		return ok
	}
	return true
}

// 8.1: every row of a few calls, held against the model at its end.
func TestRows(t *testing.T) {
	const long = 4
	kinds := 4 * len(some)
	rows := 1
	for n := 1; n <= long; n++ {
		rows *= kinds
		for row := range rows {
			s, want := shared.New(), &model{}
			for left, i := row, 0; i < n; i++ {
				if !play(s, want, left%kinds) {
					t.Fatalf("row %d of %d: call %d told wrong", row, n, i)
				}
				left /= kinds
			}
			same(t, s, want)
		}
	}
}

// 8.1: long rows, with few IDs and with many, so that blocks fall by one level and by several.
func TestLongRows(t *testing.T) {
	for _, many := range []int{2, 5, 30, 400} {
		s, want := shared.New(), &model{}
		for i, e := range mixed(1200, many) {
			l := mixed(i%6+int(e.Key)%3, many)
			s.Add(l)
			want.add(l)
			for range i % 5 {
				id := int(e.Key*7) % many
				if got := s.Drop(id); got != want.drop(id) {
					t.Fatalf("Drop(%d) = %v", id, got)
				}
			}
			if i%11 == 0 {
				same(t, s, want)
			}
		}
		same(t, s, want)
	}
}

// 8.1: one knows nothing of another.
func TestTwo(t *testing.T) {
	a, wantA := of(t, some)
	b, wantB := of(t, some)
	a.Drop(2)
	wantA.drop(2)
	b.Add(run(1, 3))
	wantB.add(run(1, 3))
	same(t, a, wantA)
	same(t, b, wantB)
}

// 8.3: raw levels, numbers and draws are answered; what is taken by Swap is Ok.
func FuzzCalls(f *testing.F) {
	f.Add([]byte{1, 2, 3, 0x81, 0x82}, 0, 0, uint64(0))
	f.Add([]byte{9, 9, 9, 9, 8, 7, 6, 5, 0x89, 0xff, 4}, 1, 3, uint64(7))
	f.Add([]byte{0xff, 0x40, 0x41, 0x80}, math.MinInt, math.MaxInt, uint64(math.MaxUint64))
	f.Fuzz(func(t *testing.T, row []byte, lev, k int, draw uint64) {
		s, want := shared.New(), &model{}
		for i, x := range row {
			id := int(x&15) - 4
			switch {
			case x == 0xff:
				l := inOrder(run(1, i%6))
				ok := lev == level(len(l))
				if got := s.Swap(want.version, []block.Block{{Level: lev, L: l}}); got != ok {
					t.Fatalf("Swap of level %d, %v = %v", lev, l, got)
				}
				if ok {
					want.swap(l)
				}
			case x >= 0x80:
				if got := s.Drop(id); got != want.drop(id) {
					t.Fatalf("Drop(%d) = %v", id, got)
				}
			default:
				l := make([]api.Entry, x>>4)
				for j := range l {
					l[j] = api.Entry{Key: uint64(x) * uint64(j) % 7, ID: id}
				}
				s.Add(l)
				want.add(l)
			}
			same(t, s, want)
			all := inOrder(want.lists...)
			e, ok := s.Candidate(k, draw)
			if ok != (len(all) > 0) {
				t.Fatalf("Candidate(%d, %d) = %v, %v", k, draw, e, ok)
			}
			if first := s.First(k); len(first) != min(max(k, 0), len(all)) {
				t.Fatalf("First(%d) = %v", k, first)
			}
		}
	})
}
