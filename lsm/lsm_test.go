package lsm_test

import (
	"math"
	"math/bits"
	"slices"
	"sort"
	"testing"

	"verger/api"
	"verger/lsm"
)

// some are entries of one Key and of unlike ones, of one ID and of unlike ones, and both ends.
var some = []api.Entry{
	{Key: 3, ID: 2},
	{Key: 8, ID: 2},
	{Key: 3, ID: -1},
	{Key: 0, ID: math.MinInt},
	{Key: math.MaxUint64, ID: math.MaxInt},
}

// model is what an LSM has to be, by another way: a place for each level, filled as the digits of a number that is counted up.
type model [64][]api.Entry

func level(n int) int {
	if n < 2 {
		return 0
	}
	return bits.Len(uint(n) - 1)
}

func (m *model) carry(l []api.Entry) {
	for len(l) > 0 {
		at := level(len(l))
		if m[at] == nil {
			m[at] = l
			return
		}
		l, m[at] = slices.Concat(m[at], l), nil
	}
}

func (m *model) put(e api.Entry) {
	m.carry([]api.Entry{e})
}

func (m *model) drop(id int) bool {
	for at := len(m) - 1; at >= 0; at-- {
		var left []api.Entry
		for _, e := range m[at] {
			if e.ID != id {
				left = append(left, e)
			}
		}
		if len(left) < len(m[at]) {
			m[at] = nil
			m.carry(left)
			return true
		}
	}
	return false
}

func (m *model) all() []api.Entry {
	all := slices.Concat(m[:]...)
	sort.Slice(all, func(i, j int) bool {
		return all[i].Key < all[j].Key || all[i].Key == all[j].Key && all[i].ID < all[j].ID
	})
	return all
}

func (m *model) levels() []int {
	var levels []int
	for at := len(m) - 1; at >= 0; at-- {
		if m[at] != nil {
			levels = append(levels, at)
		}
	}
	return levels
}

// same holds all that can be asked of m against the model.
func same(t *testing.T, m *lsm.LSM, want *model) {
	t.Helper()
	all := want.all()
	if got := m.All(); !slices.Equal(got, all) {
		t.Fatalf("All() = %v, want %v", got, all)
	}
	if got := m.Levels(); !slices.Equal(got, want.levels()) {
		t.Fatalf("Levels() = %v, want %v, of %v", got, want.levels(), all)
	}
	if got := m.Len(); got != len(all) {
		t.Fatalf("Len() = %d, want %d", got, len(all))
	}
	var least api.Entry
	if len(all) > 0 {
		least = all[0]
	}
	if e, ok := m.Min(); e != least || ok != (len(all) > 0) {
		t.Fatalf("Min() = %v, %v, of %v", e, ok, all)
	}
	if err := m.Check(); err != api.OK {
		t.Fatalf("Check() = %v, of %v", err, all)
	}
}

// mixed is a list of n in no order, with IDs below ids in no order as well.
func mixed(n, ids int) []api.Entry {
	l := make([]api.Entry, n)
	at := uint64(n)
	for i := range l {
		at = at*6364136223846793005 + 1442695040888963407
		l[i] = api.Entry{Key: at >> 58, ID: int(at>>40) % ids}
	}
	return l
}

// of is an LSM of l, put one by one.
func of(l ...api.Entry) *lsm.LSM {
	m := lsm.New()
	for _, e := range l {
		m.Put(e)
	}
	return m
}

// 7.1: a new one is empty, and answers zero values beside false.
func TestNew(t *testing.T) {
	m := lsm.New()
	same(t, m, &model{})
	for _, id := range []int{math.MinInt, -1, 0, 1, math.MaxInt} {
		if m.Drop(id) {
			t.Errorf("an empty one dropped %d", id)
		}
	}
	if l := m.Drain(); len(l) != 0 {
		t.Errorf("Drain() = %v", l)
	}
	same(t, m, &model{})
}

// 7.1: two of a level are merged at once, so the levels are the digits of the number of those put.
func TestPut(t *testing.T) {
	m, want := lsm.New(), &model{}
	for i, e := range mixed(600, 40) {
		m.Put(e)
		want.put(e)
		same(t, m, want)
		var digits []int
		for at := 63; at >= 0; at-- {
			if (i+1)>>at&1 == 1 {
				digits = append(digits, at)
			}
		}
		if got := m.Levels(); !slices.Equal(got, digits) {
			t.Fatalf("%d Puts: Levels() = %v, want %v", i+1, got, digits)
		}
	}
	if got := of(some[:3]...).Levels(); !slices.Equal(got, []int{1, 0}) {
		t.Errorf("three Puts: Levels() = %v, want 1, 0", got)
	}
}

// 7.1: the least of all, whichever block has it, by Key and then by ID.
func TestMin(t *testing.T) {
	least := api.Entry{Key: 3, ID: -5}
	for n := 1; n < 40; n++ {
		for at := range n {
			m := lsm.New()
			for i := range n {
				if i == at {
					m.Put(least)
				} else {
					m.Put(api.Entry{Key: 3, ID: i})
				}
			}
			if e, ok := m.Min(); e != least || !ok {
				t.Fatalf("the least put %d. of %d: Min() = %v, %v", at+1, n, e, ok)
			}
		}
	}
	if e, ok := of(api.Entry{}).Min(); e != (api.Entry{}) || !ok {
		t.Errorf("Min() of one of zeros = %v, %v", e, ok)
	}
}

// drops tells of each ID whether Drop took it, and the levels behind it.
type drops struct {
	id     int
	ok     bool
	levels []int
}

// 7.1: the first block alone loses an ID, and all of it; what is left falls as many levels as it must, is merged as often as it must be, and is gone if it is empty.
func TestDrop(t *testing.T) {
	ids := func(l ...int) []api.Entry {
		var out []api.Entry
		for i, id := range l {
			out = append(out, api.Entry{Key: uint64(50 - i), ID: id})
		}
		return out
	}
	for i, x := range []struct {
		l     []api.Entry
		drops []drops
		left  []int
	}{
		{ids(1), []drops{{2, false, []int{0}}, {1, true, nil}, {1, false, nil}}, nil},
		{ids(1, 1), []drops{{1, true, nil}}, nil},
		{ids(1, 1, 1), []drops{{1, true, []int{0}}, {1, true, nil}}, nil},
		{ids(1, 2, 1), []drops{{1, true, []int{1}}, {1, true, []int{0}}}, []int{2}},
		{ids(1, 2, 3), []drops{{3, true, []int{1}}, {1, true, []int{0}}}, []int{2}},
		{ids(1, 2, 3), []drops{{1, true, []int{1}}, {3, true, []int{0}}}, []int{2}},
		{ids(1, 2, 3, 4), []drops{{1, true, []int{2}}, {2, true, []int{1}}, {9, false, []int{1}}}, []int{4, 3}},
		{ids(9, 9, 9, 1, 5, 6), []drops{{9, true, []int{1, 0}}}, []int{6, 5, 1}},
		{ids(9, 9, 9, 1, 5), []drops{{9, true, []int{1}}}, []int{5, 1}},
		{ids(9, 9, 9, 1, 5, 6, 7), []drops{{9, true, []int{2}}}, []int{7, 6, 5, 1}},
		{ids(9, 9, 9, 9, 5, 6, 7), []drops{{9, true, []int{1, 0}}}, []int{7, 6, 5}},
		{ids(9, 9, 9, 9, 9, 9, 9, 1, 2, 3, 4, 5, 6, 7), []drops{{9, true, []int{2, 1, 0}}}, []int{7, 6, 5, 4, 3, 2, 1}},
		{ids(9, 9, 9, 9, 9, 9, 9, 1, 2, 3, 4, 5, 6, 7, 9), []drops{{9, true, []int{3}}, {9, true, []int{3}}}, []int{7, 6, 5, 4, 3, 2, 1}},
		{ids(9, 9, 9, 9, 9, 9, 1, 1, 2, 3, 4, 5, 6, 7), []drops{{9, true, []int{3}}, {1, true, []int{3}}}, []int{7, 6, 5, 4, 3, 2}},
		{ids(math.MinInt, math.MaxInt, 0), []drops{{math.MaxInt, true, []int{1}}, {math.MinInt, true, []int{0}}}, []int{0}},
	} {
		m := of(x.l...)
		for _, d := range x.drops {
			if ok := m.Drop(d.id); ok != d.ok {
				t.Errorf("row %d: Drop(%d) = %v", i, d.id, ok)
			}
			if got := m.Levels(); !slices.Equal(got, d.levels) {
				t.Errorf("row %d: behind Drop(%d) Levels() = %v, want %v", i, d.id, got, d.levels)
			}
			if err := m.Check(); err != api.OK {
				t.Errorf("row %d: Check() = %v", i, err)
			}
		}
		var left []int
		for _, e := range m.All() {
			left = append(left, e.ID)
		}
		if !slices.Equal(left, x.left) {
			t.Errorf("row %d: IDs left %v, want %v", i, left, x.left)
		}
	}
}

// 7.1: Drain answers all, and it can be filled again as a new one.
func TestDrain(t *testing.T) {
	for n := range 70 {
		l := mixed(n, 9)
		m, want := of(l...), &model{}
		for _, e := range l {
			want.put(e)
		}
		if got := m.Drain(); !slices.Equal(got, want.all()) {
			t.Fatalf("Drain() = %v, want %v", got, want.all())
		}
		same(t, m, &model{})
		if m.Drop(1) || len(m.Drain()) != 0 {
			t.Fatalf("something was left of %v", l)
		}
		for _, e := range l {
			m.Put(e)
		}
		same(t, m, want)
	}
}

// 7.1: what is answered is nobody else's, its spare room too.
func TestAnswersAreNew(t *testing.T) {
	mark := api.Entry{Key: 4321, ID: 4321}
	spoil := func(l []api.Entry) {
		for i := range l[:cap(l)] {
			l[:cap(l)][i] = mark
		}
	}
	for n := range 40 {
		l := mixed(n, 9)
		m, want := of(l...), &model{}
		for _, e := range l {
			want.put(e)
		}
		spoil(m.All())
		levels := m.Levels()
		for i := range levels[:cap(levels)] {
			levels[:cap(levels)][i] = 4321
		}
		same(t, m, want)
		drained := m.Drain()
		for _, e := range l {
			m.Put(e)
		}
		if !slices.Equal(drained, want.all()) {
			t.Fatalf("what was drained turned into %v", drained)
		}
		spoil(drained)
		same(t, m, want)
	}
}

// 7.2: one knows nothing of another.
func TestTwo(t *testing.T) {
	a, b := of(some...), of(some[:2]...)
	a.Drop(2)
	b.Put(some[4])
	if got := a.All(); !slices.Equal(got, []api.Entry{some[3], some[2], some[4]}) {
		t.Errorf("the first one has %v", got)
	}
	if got := b.All(); !slices.Equal(got, []api.Entry{some[0], some[1], some[4]}) {
		t.Errorf("the second one has %v", got)
	}
}

// 7.1, 7.2: every row of a few Puts and Drops, held against the model at its end.
func TestRows(t *testing.T) {
	ids := []int{2, -1, math.MinInt, 7}
	const long = 6
	kinds := len(some) + len(ids)
	rows := 1
	for n := 1; n <= long; n++ {
		rows *= kinds
		for row := range rows {
			m, want := lsm.New(), &model{}
			for range n {
				if at := row % kinds; at < len(some) {
					m.Put(some[at])
					want.put(some[at])
				} else if id := ids[at-len(some)]; m.Drop(id) != want.drop(id) {
					t.Fatalf("Drop(%d) told wrong, with %v left", id, m.All())
				}
				row /= kinds
			}
			same(t, m, want)
		}
	}
}

// 7.1, 7.2: long rows, with few IDs and with many, so that blocks fall by one level and by several.
func TestLongRows(t *testing.T) {
	for _, ids := range []int{2, 5, 30, 400} {
		m, want := lsm.New(), &model{}
		for i, e := range mixed(1500, ids) {
			m.Put(e)
			want.put(e)
			if i%4 == 3 || i > 1000 {
				id := int(e.Key*7) % ids
				if got := m.Drop(id); got != want.drop(id) {
					t.Fatalf("Drop(%d) = %v", id, got)
				}
			}
			if i%11 == 0 {
				same(t, m, want)
			}
		}
		same(t, m, want)
	}
}

// 7.2, 7.3: any row of calls ends, and leaves what was put and not dropped.
func FuzzCalls(f *testing.F) {
	f.Add([]byte{1, 2, 3, 0x81, 0x82})
	f.Add([]byte{9, 9, 9, 9, 8, 7, 6, 5, 0x89, 0xff, 4})
	f.Fuzz(func(t *testing.T, row []byte) {
		m, want := lsm.New(), &model{}
		for _, b := range row {
			id := int(b&15) - 4
			switch {
			case b == 0xff:
				if got := m.Drain(); !slices.Equal(got, want.all()) {
					t.Fatalf("Drain() = %v, want %v", got, want.all())
				}
				*want = model{}
			case b >= 0x80:
				if got := m.Drop(id); got != want.drop(id) {
					t.Fatalf("Drop(%d) = %v", id, got)
				}
			default:
				e := api.Entry{Key: uint64(b >> 4), ID: id}
				m.Put(e)
				want.put(e)
			}
			same(t, m, want)
		}
	})
}
