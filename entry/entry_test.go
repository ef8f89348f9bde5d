package entry_test

import (
	"math"
	"slices"
	"sort"
	"testing"

	"verger/api"
	"verger/entry"
)

const most = math.MaxUint64

// rising has entries in their order. What an answer should be is worked out of their places in it, so that no test leans on Less but the one that holds Less against it.
var rising = []api.Entry{
	{Key: 0, ID: math.MinInt},
	{Key: 0, ID: -1},
	{Key: 0, ID: 0},
	{Key: 0, ID: 1},
	{Key: 0, ID: math.MaxInt},
	{Key: 1, ID: math.MinInt},
	{Key: 1, ID: -1},
	{Key: 1, ID: 0},
	{Key: 1, ID: 1},
	{Key: 2, ID: -1},
	{Key: 2, ID: 1},
	{Key: 1 << 32, ID: 0},
	{Key: 1<<32 + 1, ID: -5},
	{Key: math.MaxInt64, ID: 1},
	{Key: 1 << 63, ID: 0},
	{Key: most - 1, ID: math.MaxInt},
	{Key: most, ID: math.MinInt},
	{Key: most, ID: 0},
	{Key: most, ID: 1},
	{Key: most, ID: math.MaxInt},
}

// mark is what stands in spare room; no list of a test has it.
var mark = api.Entry{Key: 77, ID: 77}

// list makes a list of entries by their places in rising, with marked spare room behind it.
func list(places []int) []api.Entry {
	l := make([]api.Entry, 0, len(places)+3)
	for _, p := range places {
		l = append(l, rising[p])
	}
	spare(l)
	return l
}

func spare(l []api.Entry) {
	room := l[len(l):cap(l)]
	for i := range room {
		room[i] = mark
	}
}

// stays tells whether l is still the list of places, and its spare room still marked.
func stays(l []api.Entry, places []int) bool {
	for i, p := range places {
		if l[i] != rising[p] {
			return false
		}
	}
	for _, e := range l[len(l):cap(l)] {
		if e != mark {
			return false
		}
	}
	return len(l) == len(places)
}

// scribble writes over an answer and its spare room, so that who shares it is found out.
func scribble(l []api.Entry) {
	l = l[:cap(l)]
	for i := range l {
		l[i] = api.Entry{Key: 99, ID: 99}
	}
}

func inOrder(places []int) []int {
	out := slices.Clone(places)
	sort.Ints(out)
	return out
}

// less is how many of places are ahead of p.
func less(places []int, p int) int {
	n := 0
	for _, x := range places {
		if x < p {
			n++
		}
	}
	return n
}

// short has all lists of at most n out of some places.
func short(n int, of []int) [][]int {
	all := [][]int{{}}
	for from := 0; n > 0; n-- {
		to := len(all)
		for _, l := range all[from:to] {
			for _, p := range of {
				all = append(all, append(slices.Clone(l), p))
			}
		}
		from = to
	}
	return all
}

// few has places of unlike Keys with one ID, of one Key with unlike IDs, and both ends.
var few = []int{0, 3, 7, 8, 19}

// lists has the short lists, and some that are longer.
func lists() [][]int {
	all := short(4, few)
	at := uint64(1)
	for n := 5; n < 80; n++ {
		l := make([]int, n)
		for i := range l {
			at = at*6364136223846793005 + 1442695040888963407
			l[i] = int(at >> 33 % uint64(len(rising)))
		}
		all = append(all, l, inOrder(l))
	}
	return all
}

func sortedLists() [][]int {
	var all [][]int
	for _, l := range lists() {
		if sort.IntsAreSorted(l) {
			all = append(all, l)
		}
	}
	return all
}

// 5.1: by Key, then by ID, to both ends of each.
func TestLess(t *testing.T) {
	for i, a := range rising {
		for j, b := range rising {
			if got := entry.Less(a, b); got != (i < j) {
				t.Errorf("Less(%v, %v) = %t", a, b, got)
			}
		}
	}
}

// 5.1: none, one, the same twice, and what is not in order at each place.
func TestSorted(t *testing.T) {
	if !entry.Sorted(nil) || !entry.Sorted([]api.Entry{}) || !entry.Sorted(rising) {
		t.Error("a list in order")
	}
	for _, places := range lists() {
		l := list(places)
		if got := entry.Sorted(l); got != sort.IntsAreSorted(places) {
			t.Errorf("Sorted(%v) = %t", l, got)
		}
		if !stays(l, places) {
			t.Errorf("Sorted changed %v", l)
		}
	}
	for i := 1; i < len(rising); i++ {
		l := slices.Clone(rising)
		l[i-1], l[i] = l[i], l[i-1]
		if entry.Sorted(l) {
			t.Errorf("Sorted where %d and %d are the wrong way round", i-1, i)
		}
	}
}

// 5.1, 5.2
func TestSort(t *testing.T) {
	for _, places := range lists() {
		l := list(places)
		got := entry.Sort(l)
		if want := list(inOrder(places)); !slices.Equal(got, want) {
			t.Errorf("Sort(%v) = %v, want %v", l, got, want)
		}
		scribble(got)
		if !stays(l, places) {
			t.Fatalf("Sort did not leave its list alone: %v", l)
		}
	}
	if got := entry.Sort(nil); len(got) != 0 {
		t.Errorf("Sort of none = %v", got)
	}
}

// 5.1: a long list, falling, rising and with many that are the same.
func TestSortLong(t *testing.T) {
	const n = 1 << 14
	for _, key := range []func(i int) uint64{
		func(i int) uint64 { return uint64(n - i) },
		func(i int) uint64 { return uint64(i) },
		func(i int) uint64 { return uint64(i % 3) },
		func(i int) uint64 { return uint64(i) * 0x9e3779b97f4a7c15 },
	} {
		l := make([]api.Entry, n)
		count := map[api.Entry]int{}
		for i := range l {
			l[i] = api.Entry{Key: key(i), ID: -i % 7}
			count[l[i]]++
		}
		got := entry.Sort(l)
		for i, e := range got {
			count[e]--
			if i > 0 && (e.Key < got[i-1].Key || e.Key == got[i-1].Key && e.ID < got[i-1].ID) {
				t.Fatalf("%v behind %v", e, got[i-1])
			}
		}
		for e, c := range count {
			if c != 0 {
				t.Fatalf("%v: %d too few", e, c)
			}
		}
	}
}

// 5.1, 5.2
func TestMerge(t *testing.T) {
	all := sortedLists()
	for _, pa := range all {
		for _, pb := range all {
			a, b := list(pa), list(pb)
			got := entry.Merge(a, b)
			if want := list(inOrder(append(slices.Clone(pa), pb...))); !slices.Equal(got, want) {
				t.Fatalf("Merge(%v, %v) = %v, want %v", a, b, got, want)
			}
			scribble(got)
			if !stays(a, pa) || !stays(b, pb) {
				t.Fatalf("Merge did not leave its lists alone: %v, %v", a, b)
			}
		}
	}
	if got := entry.Merge(nil, nil); len(got) != 0 {
		t.Errorf("Merge of none = %v", got)
	}
	for _, got := range [][]api.Entry{entry.Merge(nil, rising), entry.Merge(rising, nil)} {
		if !slices.Equal(got, rising) {
			t.Errorf("Merge with none = %v", got)
		}
	}
}

// 5.2: a list with itself, and lists that lie in one another's spare room.
func TestMergeOfOne(t *testing.T) {
	l := list([]int{1, 3, 3, 5})
	got := entry.Merge(l, l)
	if want := list([]int{1, 1, 3, 3, 3, 3, 5, 5}); !slices.Equal(got, want) {
		t.Errorf("Merge with itself = %v", got)
	}
	got = entry.Merge(l[:2], l[2:])
	if !slices.Equal(got, l) {
		t.Errorf("Merge of its halves = %v", got)
	}
	scribble(got)
	if !stays(l, []int{1, 3, 3, 5}) {
		t.Errorf("Merge did not leave its list alone: %v", l)
	}
}

// 5.1, 5.2
func TestPlace(t *testing.T) {
	for _, places := range sortedLists() {
		for p, e := range rising {
			l := list(places)
			if got := entry.Place(l, e); got != less(places, p) {
				t.Fatalf("Place(%v, %v) = %d, want %d", l, e, got, less(places, p))
			}
			if !stays(l, places) {
				t.Fatalf("Place changed %v", l)
			}
		}
	}
	if got := entry.Place(nil, rising[9]); got != 0 {
		t.Errorf("Place in none = %d", got)
	}
}

// 5.1, 5.2: any list, in order or not.
func TestSmaller(t *testing.T) {
	for _, places := range lists() {
		for p, e := range rising {
			l := list(places)
			if got := entry.Smaller(l, e); got != less(places, p) {
				t.Fatalf("Smaller(%v, %v) = %d, want %d", l, e, got, less(places, p))
			}
			if !stays(l, places) {
				t.Fatalf("Smaller changed %v", l)
			}
		}
	}
	if got := entry.Smaller(nil, rising[9]); got != 0 {
		t.Errorf("Smaller of none = %d", got)
	}
}

// 5.1, 5.2: a Sorted list stays Sorted; of any list, e is behind the last that is not greater.
func TestPut(t *testing.T) {
	for _, places := range lists() {
		for p, e := range rising {
			at := 0
			for i, x := range places {
				if x <= p {
					at = i + 1
				}
			}
			l := list(places)
			got := entry.Put(l, e)
			if want := list(slices.Insert(slices.Clone(places), at, p)); !slices.Equal(got, want) {
				t.Fatalf("Put(%v, %v) = %v, want %v", l, e, got, want)
			}
			scribble(got)
			if !stays(l, places) {
				t.Fatalf("Put did not leave its list alone: %v", l)
			}
		}
	}
	if got := entry.Put(nil, mark); !slices.Equal(got, []api.Entry{mark}) {
		t.Errorf("Put to none = %v", got)
	}
}

// 5.1, 5.2: the first of an ID, whatever its Key; where there is none, all that there was.
func TestDrop(t *testing.T) {
	for _, places := range lists() {
		for _, id := range []int{math.MinInt, -5, -1, 0, 1, 2, 1 << 32, math.MaxInt} {
			at := slices.IndexFunc(places, func(p int) bool { return rising[p].ID == id })
			rest := places
			if at >= 0 {
				rest = slices.Delete(slices.Clone(places), at, at+1)
			}
			l := list(places)
			got, ok := entry.Drop(l, id)
			if want := list(rest); !slices.Equal(got, want) || ok != (at >= 0) {
				t.Fatalf("Drop(%v, %d) = %v, %t, want %v", l, id, got, ok, want)
			}
			scribble(got)
			if !stays(l, places) {
				t.Fatalf("Drop did not leave its list alone: %v", l)
			}
		}
	}
	if got, ok := entry.Drop(nil, 0); len(got) != 0 || ok {
		t.Errorf("Drop of none = %v, %t", got, ok)
	}
}

// 5.1: what was put is dropped again, where no other has its ID.
func TestPutAndDrop(t *testing.T) {
	for _, places := range lists() {
		l := list(places)
		for _, key := range []uint64{0, 1, 5, most} {
			e := api.Entry{Key: key, ID: 4444}
			got, ok := entry.Drop(entry.Put(l, e), 4444)
			if !slices.Equal(got, l) || !ok {
				t.Fatalf("%v with and without %v = %v, %t", l, e, got, ok)
			}
		}
	}
}

// 5.1: the chapter's example, and the edges of Least.
func TestLeast(t *testing.T) {
	one := func(key uint64, id int) []api.Entry { return []api.Entry{{Key: key, ID: id}} }
	for i, x := range []struct {
		lists [][]api.Entry
		e     api.Entry
		at    int
		ok    bool
	}{
		{[][]api.Entry{one(5, 1), one(3, 9)}, api.Entry{Key: 3, ID: 9}, 1, true},
		{nil, api.Entry{}, 0, false},
		{[][]api.Entry{}, api.Entry{}, 0, false},
		{[][]api.Entry{nil}, api.Entry{}, 0, false},
		{[][]api.Entry{nil, {}, nil}, api.Entry{}, 0, false},
		{[][]api.Entry{one(0, 0)}, api.Entry{}, 0, true},
		{[][]api.Entry{nil, {}, one(0, 0)}, api.Entry{}, 2, true},
		{[][]api.Entry{one(0, 0), one(0, -1), nil}, api.Entry{Key: 0, ID: -1}, 1, true},
		{[][]api.Entry{nil, one(most, math.MaxInt), nil}, api.Entry{Key: most, ID: math.MaxInt}, 1, true},
		{[][]api.Entry{one(4, 4), one(3, 3), one(3, 3), one(3, 4), one(3, 3)}, api.Entry{Key: 3, ID: 3}, 1, true},
		{[][]api.Entry{rising[8:], rising[7:], rising[9:], rising[7:]}, rising[7], 1, true},
	} {
		e, at, ok := entry.Least(x.lists...)
		if e != x.e || at != x.at || ok != x.ok {
			t.Errorf("%d: Least(%v) = %v, %d, %t", i, x.lists, e, at, ok)
		}
	}
}

// 5.1, 5.2: each three lists, of which the first with the least is told.
func TestLeastOfThree(t *testing.T) {
	all := short(2, few)
	for _, pa := range all {
		for _, pb := range all {
			for _, pc := range all {
				least, at := len(rising), 0
				places := [][]int{inOrder(pa), inOrder(pb), inOrder(pc)}
				given := [][]api.Entry{}
				for i, p := range places {
					given = append(given, list(p))
					if len(p) > 0 && p[0] < least {
						least, at = p[0], i
					}
				}
				want := api.Entry{}
				if least < len(rising) {
					want = rising[least]
				}
				e, i, ok := entry.Least(given...)
				if e != want || i != at || ok != (least < len(rising)) {
					t.Fatalf("Least(%v) = %v, %d, %t", given, e, i, ok)
				}
				for i, p := range places {
					if !stays(given[i], p) {
						t.Fatalf("Least changed %v", given[i])
					}
				}
			}
		}
	}
}

// 5.2: lists that are not in order, where they should be: each call is answered, with no entry lost, added or changed.
func TestNotInOrder(t *testing.T) {
	all := short(3, few)
	for _, pa := range all {
		a := list(pa)
		for _, e := range rising {
			if n := entry.Place(a, e); n < 0 || n > len(a) {
				t.Fatalf("Place(%v, %v) = %d", a, e, n)
			}
		}
		for _, pb := range all {
			b := list(pb)
			got := entry.Sort(entry.Merge(a, b))
			if want := list(inOrder(append(slices.Clone(pa), pb...))); !slices.Equal(got, want) {
				t.Fatalf("Merge(%v, %v) has %v", a, b, got)
			}
			if !stays(a, pa) || !stays(b, pb) {
				t.Fatalf("Merge did not leave its lists alone: %v, %v", a, b)
			}
			if e, at, ok := entry.Least(a, b); ok && e != [][]api.Entry{a, b}[at][0] {
				t.Fatalf("Least(%v, %v) = %v, %d", a, b, e, at)
			}
		}
	}
}

// 5.1, 5.2: lists made of any bytes.
func FuzzEntry(f *testing.F) {
	f.Add([]byte{}, []byte{}, uint64(0), 0)
	f.Add([]byte{3, 1, 2}, []byte{2, 2, 9, 0}, uint64(2), 1)
	f.Add([]byte{255, 0, 128}, []byte{7}, uint64(most), math.MinInt)
	f.Fuzz(func(t *testing.T, x, y []byte, key uint64, id int) {
		read := func(bytes []byte) []api.Entry {
			l := make([]api.Entry, 0, len(bytes)+2)
			for _, b := range bytes {
				l = append(l, api.Entry{Key: uint64(b/16) << 60, ID: int(b%16) - 8})
			}
			spare(l)
			return l
		}
		a, b, e := read(x), read(y), api.Entry{Key: key, ID: id}
		sa, sb := entry.Sort(a), entry.Sort(b)
		m := entry.Merge(sa, sb)
		if !entry.Sorted(sa) || !entry.Sorted(m) || !slices.Equal(m, entry.Sort(slices.Concat(b, a))) {
			t.Errorf("Sort %v, Merge %v", sa, m)
		}
		if p := entry.Put(m, e); !entry.Sorted(p) || len(p) != len(m)+1 || entry.Place(p, e) != entry.Place(m, e) {
			t.Errorf("Put(%v, %v) = %v", m, e, p)
		}
		if entry.Place(m, e) != entry.Smaller(a, e)+entry.Smaller(b, e) {
			t.Errorf("Place(%v, %v) = %d", m, e, entry.Place(m, e))
		}
		if l, _, ok := entry.Least(sa, sb); ok != (len(m) > 0) || ok && l != m[0] {
			t.Errorf("Least(%v, %v) = %v, %t", sa, sb, l, ok)
		}
		if d, ok := entry.Drop(a, id); len(d) > len(a) || ok != (len(d) < len(a)) {
			t.Errorf("Drop(%v, %d) = %v, %t", a, id, d, ok)
		}
		if !slices.Equal(a[:cap(a)], read(x)[:cap(a)]) || !slices.Equal(b[:cap(b)], read(y)[:cap(b)]) {
			t.Error("a list was changed")
		}
	})
}
