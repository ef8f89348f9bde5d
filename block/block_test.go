package block_test

import (
	"math"
	"math/bits"
	"slices"
	"sort"
	"testing"

	"verger/api"
	"verger/block"
)

// mark is what stands in spare room, over what is written on an answer; no list of a test has it.
var mark = api.Entry{Key: 4321, ID: 4321}

// some are entries of one Key and of unlike ones, of one ID and of unlike ones, and both ends.
var some = []api.Entry{
	{Key: 0, ID: math.MinInt},
	{Key: 3, ID: -1},
	{Key: 3, ID: 2},
	{Key: 8, ID: 2},
	{Key: math.MaxUint64, ID: math.MaxInt},
}

// given is a list that is handed in, with marked spare room, and what it has to be afterwards.
type given struct{ l, kept []api.Entry }

func give(l []api.Entry) given {
	room := make([]api.Entry, len(l)+3)
	for i := copy(room, l); i < len(room); i++ {
		room[i] = mark
	}
	return given{l: room[:len(l)], kept: slices.Clone(room)}
}

func (g given) stays() bool {
	return slices.Equal(g.l[:cap(g.l)], g.kept)
}

// spoil writes over an answer and its spare room, so that who shares it is found out.
func spoil(l []api.Entry) {
	for i := range l[:cap(l)] {
		l[:cap(l)][i] = mark
	}
}

// inOrder is what the lists have, by Key, then by ID; it does not lean on the layer below.
func inOrder(lists ...[]api.Entry) []api.Entry {
	all := slices.Concat(lists...)
	sort.SliceStable(all, func(i, j int) bool {
		return all[i].Key < all[j].Key || all[i].Key == all[j].Key && all[i].ID < all[j].ID
	})
	return all
}

// level is Level by another way.
func level(n int) int {
	if n < 2 {
		return 0
	}
	return bits.Len64(uint64(n) - 1)
}

// right tells whether b is of just what l has.
func right(b block.Block, l []api.Entry) bool {
	return slices.Equal(b.L, inOrder(l)) && b.Level == level(len(l)) && b.Ok()
}

// rows are all lists of at most n out of some.
func rows(n int) [][]api.Entry {
	all := [][]api.Entry{nil}
	for from := 0; n > 0; n-- {
		to := len(all)
		for _, l := range all[from:to] {
			for _, e := range some {
				all = append(all, append(slices.Clone(l), e))
			}
		}
		from = to
	}
	return all
}

// mixed is a list of n in no order, with some that are the same.
func mixed(n int) []api.Entry {
	l := make([]api.Entry, n)
	at := uint64(n)
	for i := range l {
		at = at*6364136223846793005 + 1442695040888963407
		l[i] = api.Entry{Key: at >> 60, ID: int(at>>50)%8 - 3}
	}
	return l
}

// lists are short ones, and longer ones of all lengths round a few levels.
func lists() [][]api.Entry {
	all := rows(4)
	for n := 5; n < 70; n++ {
		all = append(all, mixed(n))
	}
	return all
}

// odd are levels that a block may be told to have.
var odd = []int{math.MinInt, -64, -1, 0, 1, 2, 7, 62, 63, 64, 65, math.MaxInt}

// 6.1: the least level whose power of two is enough, up to the greatest number, and 0 below 2.
func TestLevel(t *testing.T) {
	for n, want := range map[int]int{
		math.MinInt: 0, math.MinInt + 1: 0, -1 << 62: 0, -2: 0, -1: 0, 0: 0, 1: 0,
		2: 1, 3: 2, 4: 2, 5: 3, 8: 3, 9: 4, 16: 4, 17: 5,
		math.MaxInt32: 31, math.MaxInt32 + 1: 31, math.MaxInt32 + 2: 32,
		1<<62 - 1: 62, 1 << 62: 62, 1<<62 + 1: 63, math.MaxInt - 1: 63, math.MaxInt: 63,
	} {
		if got := block.Level(n); got != want {
			t.Errorf("Level(%d) = %d, want %d", n, got, want)
		}
	}
	for k := 2; k <= 62; k++ {
		n := 1 << k
		for d, want := range map[int]int{-1: k, 0: k, 1: k + 1} {
			if got := block.Level(n + d); got != want {
				t.Errorf("Level(%d) = %d, want %d", n+d, got, want)
			}
		}
	}
	for n := -100; n < 5000; n++ {
		if got := block.Level(n); got != level(n) {
			t.Errorf("Level(%d) = %d, want %d", n, got, level(n))
		}
	}
}

// 6.1, 6.2: in order, of its length's level, and in memory of its own.
func TestOf(t *testing.T) {
	for _, l := range lists() {
		g := give(l)
		b := block.Of(g.l)
		if !right(b, l) {
			t.Fatalf("Of(%v) = %v", l, b)
		}
		spoil(b.L)
		if !g.stays() {
			t.Fatalf("Of did not leave %v alone", l)
		}
	}
	if b := block.Of([]api.Entry{}); b.Level != 0 || len(b.L) != 0 || !b.Ok() {
		t.Errorf("Of none = %v", b)
	}
}

// 6.1, 6.2: many, at both sides of a level's bound.
func TestOfLong(t *testing.T) {
	for n, want := range map[int]int{1<<12 - 1: 12, 1 << 12: 12, 1<<12 + 1: 13, 1 << 14: 14} {
		if b := block.Of(mixed(n)); !right(b, mixed(n)) || b.Level != want {
			t.Errorf("Of %d is of level %d, Ok: %t", n, b.Level, b.Ok())
		}
	}
}

// 6.1: each length at each level: at most two to the power of it, and more than half of that but at level 0.
func TestOkLength(t *testing.T) {
	for n := range 40 {
		l := inOrder(mixed(n))
		for k := -3; k < 70; k++ {
			g := give(l)
			want := k == 0 && n < 2 || k > 0 && k < 20 && n <= 1<<k && n > 1<<k/2
			if got := (block.Block{Level: k, L: g.l}).Ok(); got != want {
				t.Errorf("%d at level %d: Ok = %t", n, k, got)
			}
			if !g.stays() {
				t.Fatalf("Ok changed %v", l)
			}
		}
		for _, k := range []int{math.MinInt, math.MinInt + 1, -1 << 32, -64, -63, -62, 1 << 32, math.MaxInt - 63, math.MaxInt} {
			if (block.Block{Level: k, L: l}).Ok() {
				t.Errorf("%d at level %d is Ok", n, k)
			}
		}
	}
}

// 6.1: of the right level, but in order or not; the same may stand there twice.
func TestOkOrder(t *testing.T) {
	for _, l := range lists() {
		want := slices.Equal(l, inOrder(l))
		if got := (block.Block{Level: level(len(l)), L: l}).Ok(); got != want {
			t.Errorf("%v: Ok = %t", l, got)
		}
	}
	for n := 2; n < 40; n++ {
		l := make([]api.Entry, n)
		if !(block.Block{Level: level(n), L: l}).Ok() {
			t.Errorf("the same %d times is not Ok", n)
		}
		for i := range n - 1 {
			l[i].ID = 1
			if (block.Block{Level: level(n), L: l}).Ok() {
				t.Errorf("%d, with the one at %d too late, are Ok", n, i)
			}
			l[i].ID = 0
		}
	}
}

// 6.1: the first as it stands, whatever the level; beside a false nothing.
func TestMin(t *testing.T) {
	for _, l := range lists() {
		for _, k := range odd {
			g := give(l)
			e, ok := block.Block{Level: k, L: g.l}.Min()
			if len(l) == 0 && (e != api.Entry{} || ok) || len(l) > 0 && (e != l[0] || !ok) {
				t.Fatalf("Min of %v at level %d = %v, %t", l, k, e, ok)
			}
			if !g.stays() {
				t.Fatalf("Min changed %v", l)
			}
		}
		e, ok := block.Of(l).Min()
		if ok != (len(l) > 0) || ok && e != inOrder(l)[0] {
			t.Fatalf("Min of Of(%v) = %v, %t", l, e, ok)
		}
	}
	if e, ok := (block.Block{L: []api.Entry{}}).Min(); e != (api.Entry{}) || ok {
		t.Errorf("Min of none = %v, %t", e, ok)
	}
}

// 6.1, 6.2: each two lists, as they came and as blocks; those that are not Ok as well.
func TestMerge(t *testing.T) {
	all := rows(3)
	for n := 4; n < 40; n++ {
		all = append(all, mixed(n))
	}
	for i, x := range all {
		for j, y := range all {
			gx, gy := give(x), give(y)
			a := block.Block{Level: odd[i%len(odd)], L: gx.l}
			b := block.Block{Level: odd[j%len(odd)], L: gy.l}
			if got := block.Merge(block.Of(x), block.Of(y)); !right(got, slices.Concat(x, y)) {
				t.Fatalf("Merge of blocks of %v, %v = %v", x, y, got)
			}
			got := block.Merge(a, b)
			if !right(got, slices.Concat(x, y)) {
				t.Fatalf("Merge(%v, %v) = %v", a, b, got)
			}
			spoil(got.L)
			if !gx.stays() || !gy.stays() {
				t.Fatalf("Merge did not leave %v, %v alone", x, y)
			}
		}
	}
	if got := block.Merge(block.Block{}, block.Block{}); !right(got, nil) {
		t.Errorf("Merge of none = %v", got)
	}
}

// 6.1: two of one level make one of the next.
func TestMergeLevels(t *testing.T) {
	for n := 1; n < 70; n++ {
		for m := 1; m < 70; m++ {
			a, b := block.Of(mixed(n)), block.Of(mixed(m))
			if got := block.Merge(a, b); a.Level == b.Level && got.Level != a.Level+1 {
				t.Fatalf("%d and %d, of level %d, make level %d", n, m, a.Level, got.Level)
			}
		}
	}
}

// 6.1: a block with itself, and two that lie in one another's spare room.
func TestMergeOfOne(t *testing.T) {
	g := give(inOrder(some))
	b := block.Block{Level: 3, L: g.l}
	for i := range some {
		halves := block.Merge(block.Block{L: g.l[i:]}, block.Block{L: g.l[:i]})
		if !right(halves, some) {
			t.Errorf("Merge of the halves at %d = %v", i, halves)
		}
	}
	got := block.Merge(b, b)
	if !right(got, slices.Concat(some, some)) {
		t.Errorf("Merge with itself = %v", got)
	}
	spoil(got.L)
	if !g.stays() {
		t.Errorf("Merge did not leave %v alone", some)
	}
}

// 6.1, 6.2: each of a few IDs, gone or not, at each place at which it stands.
func TestShrink(t *testing.T) {
	ids := []int{math.MinInt, -1, 2, math.MaxInt}
	for i, l := range lists() {
		for set := range 1 << len(ids) {
			gone := func(id int) bool {
				at := slices.Index(ids, id)
				return at >= 0 && set>>at&1 == 1
			}
			var left []api.Entry
			for _, e := range l {
				if !gone(e.ID) {
					left = append(left, e)
				}
			}
			g := give(l)
			got := block.Shrink(block.Block{Level: odd[i%len(odd)], L: g.l}, gone)
			if !right(got, left) {
				t.Fatalf("Shrink of %v by %b = %v", l, set, got)
			}
			spoil(got.L)
			if !g.stays() {
				t.Fatalf("Shrink did not leave %v alone", l)
			}
		}
	}
}

// 6.1: all gone, none gone, nobody to ask.
func TestShrinkEdges(t *testing.T) {
	for _, l := range lists() {
		b := block.Block{Level: -1, L: l}
		if got := block.Shrink(b, func(int) bool { return true }); !right(got, nil) {
			t.Fatalf("Shrink of %v by all = %v", l, got)
		}
		if got := block.Shrink(b, func(int) bool { return false }); !right(got, l) {
			t.Fatalf("Shrink of %v by none = %v", l, got)
		}
		g := give(l)
		got := block.Shrink(block.Block{L: g.l}, nil)
		if !right(got, l) {
			t.Fatalf("Shrink of %v by nobody = %v", l, got)
		}
		spoil(got.L)
		if !g.stays() {
			t.Fatalf("Shrink by nobody did not leave %v alone", l)
		}
	}
}

// 6.3: a gone that panics has not said that an id is gone; the others are asked all the same.
func TestShrinkPanic(t *testing.T) {
	for _, with := range []any{"word", 0, nil} {
		l := []api.Entry{{Key: 5, ID: 1}, {Key: 4, ID: 2}, {Key: 3, ID: 3}, {Key: 2, ID: 2}, {Key: 1, ID: 4}}
		got := block.Shrink(block.Block{L: l}, func(id int) bool {
			if id == 2 {
				panic(with)
			}
			return id == 3
		})
		if !right(got, []api.Entry{{Key: 5, ID: 1}, {Key: 4, ID: 2}, {Key: 2, ID: 2}, {Key: 1, ID: 4}}) {
			t.Errorf("Shrink = %v", got)
		}
	}
}

// 6.1, 6.2: at each place and beyond both ends; of a block that is not in order, the first as they stand. The two share no memory.
func TestCut(t *testing.T) {
	for i, l := range lists() {
		for _, sorted := range []bool{false, true} {
			if sorted {
				l = inOrder(l)
			}
			cuts := []int{math.MinInt, math.MinInt + 1, -1, len(l) + 1, math.MaxInt - 1, math.MaxInt}
			for n := range len(l) + 1 {
				cuts = append(cuts, n)
			}
			for _, n := range cuts {
				at := min(max(n, 0), len(l))
				g := give(l)
				first, rest := block.Cut(block.Block{Level: odd[i%len(odd)], L: g.l}, n)
				if !right(first, l[:at]) || !right(rest, l[at:]) {
					t.Fatalf("Cut(%v, %d) = %v, %v", l, n, first, rest)
				}
				spoil(first.L)
				if !right(rest, l[at:]) || !g.stays() {
					t.Fatalf("Cut(%v, %d): the first part is shared", l, n)
				}
				spoil(rest.L)
				if !g.stays() {
					t.Fatalf("Cut(%v, %d): the rest is shared", l, n)
				}
			}
		}
	}
}

// 6.1: what was cut is merged again as it was.
func TestCutAndMerge(t *testing.T) {
	for _, l := range lists() {
		b := block.Of(l)
		for n := range len(l) + 1 {
			if got := block.Merge(block.Cut(b, n)); !right(got, l) {
				t.Fatalf("%v, cut at %d and merged, is %v", b, n, got)
			}
		}
	}
}

// 6.1: of each three lists as many as asked for, whether they are in order or not.
func TestPivot(t *testing.T) {
	all := append(rows(2), mixed(5), mixed(9), inOrder(mixed(17)))
	for i, x := range all {
		for j, y := range all {
			for _, z := range [][]api.Entry{nil, {some[1]}, {some[3], some[2]}, mixed(6)} {
				gx, gy, gz := give(x), give(y), give(z)
				blocks := []block.Block{{Level: odd[i%len(odd)], L: gx.l}, {}, {Level: odd[j%len(odd)], L: gy.l}, block.Of(gz.l)}
				want := inOrder(x, y, z)
				for _, n := range []int{math.MinInt, -1, 0, 1, 2, 3, len(want) - 1, len(want), len(want) + 1, math.MaxInt} {
					got := block.Pivot(blocks, n)
					if !slices.Equal(got, want[:min(max(n, 0), len(want))]) {
						t.Fatalf("Pivot(%v, %d) = %v", blocks, n, got)
					}
					spoil(got)
					if !gx.stays() || !gy.stays() || !slices.Equal(blocks[3].L, inOrder(z)) {
						t.Fatalf("Pivot did not leave %v alone", blocks)
					}
				}
				if blocks[0].Level != odd[i%len(odd)] || len(blocks[1].L) != 0 || blocks[3].Level != level(len(z)) {
					t.Fatalf("Pivot changed %v", blocks)
				}
			}
		}
	}
}

// 6.1: no blocks, empty blocks, one block more than once.
func TestPivotEdges(t *testing.T) {
	for _, n := range []int{math.MinInt, -1, 0, 1, 5, math.MaxInt} {
		for _, blocks := range [][]block.Block{nil, {}, {{}}, {{}, {Level: 9, L: []api.Entry{}}}} {
			if got := block.Pivot(blocks, n); len(got) != 0 {
				t.Errorf("Pivot(%v, %d) = %v", blocks, n, got)
			}
		}
	}
	g := give(inOrder(mixed(7)))
	b := block.Block{Level: 3, L: g.l}
	want := inOrder(g.l, g.l, g.l)
	for n := range len(want) + 1 {
		got := block.Pivot([]block.Block{b, b, b}, n)
		if !slices.Equal(got, want[:n]) {
			t.Errorf("Pivot of one block three times, %d = %v", n, got)
		}
		spoil(got)
		if !g.stays() {
			t.Fatal("Pivot did not leave its block alone")
		}
	}
}

// 6.1: the spare room behind a list of blocks is not looked at, nor written to.
func TestPivotSpareBlocks(t *testing.T) {
	blocks := []block.Block{block.Of(some[3:]), block.Of(some[:3])}
	if got := block.Pivot(blocks[:1], 9); !slices.Equal(got, some[3:]) {
		t.Errorf("Pivot = %v", got)
	}
	if !right(blocks[1], some[:3]) {
		t.Errorf("Pivot changed %v", blocks[1])
	}
}

// 6.1, 6.2, 6.3: blocks made of any bytes and of any level.
func FuzzBlock(f *testing.F) {
	f.Add([]byte{}, []byte{}, 0, 0)
	f.Add([]byte{3, 1, 2}, []byte{2, 2, 9, 0}, 2, 1)
	f.Add([]byte{255, 0, 128, 128}, []byte{7}, math.MinInt, math.MaxInt)
	f.Fuzz(func(t *testing.T, x, y []byte, k, n int) {
		read := func(bytes []byte) given {
			var l []api.Entry
			for _, b := range bytes {
				l = append(l, api.Entry{Key: uint64(b/16) << 60, ID: int(b%16) - 8})
			}
			return give(l)
		}
		gx, gy := read(x), read(y)
		a, b := block.Block{Level: k, L: gx.l}, block.Block{Level: n, L: gy.l}
		if ok := k >= 0 && k <= 62 && k == level(len(x)) && slices.Equal(gx.l, inOrder(gx.l)); a.Ok() != ok {
			t.Errorf("%v: Ok = %t", a, a.Ok())
		}
		if got := block.Merge(a, b); !right(got, slices.Concat(gx.l, gy.l)) {
			t.Errorf("Merge(%v, %v) = %v", a, b, got)
		}
		at := min(max(n, 0), len(x))
		if first, rest := block.Cut(a, n); !right(first, gx.l[:at]) || !right(rest, gx.l[at:]) {
			t.Errorf("Cut(%v, %d) = %v, %v", a, n, first, rest)
		}
		left := slices.DeleteFunc(slices.Clone(gx.l), func(e api.Entry) bool { return e.ID < n })
		if got := block.Shrink(a, func(id int) bool { return id < n }); !right(got, left) {
			t.Errorf("Shrink(%v) below %d = %v", a, n, got)
		}
		all := inOrder(gx.l, gy.l)
		if got := block.Pivot([]block.Block{a, b}, n); !slices.Equal(got, all[:min(max(n, 0), len(all))]) {
			t.Errorf("Pivot(%v, %v, %d) = %v", a, b, n, got)
		}
		if !gx.stays() || !gy.stays() {
			t.Error("a list was changed")
		}
	})
}
