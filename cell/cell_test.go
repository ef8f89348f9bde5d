package cell_test

import (
	"math"
	"testing"

	"verger/api"
	"verger/cell"
)

const most = math.MaxUint64

// none has places that are no word of a memory of three.
var none = []int{-1, 3, 4, -4096, 4096, 1 << 16, 1 << 32, 1 << 40, math.MaxInt32, math.MinInt32, math.MaxInt, math.MinInt}

func memory(t *testing.T, n int) *cell.Memory {
	t.Helper()
	m, e := cell.New(n)
	if e != api.OK || m == nil {
		t.Fatalf("New(%d) = %v, %d", n, m, e)
	}
	return m
}

// told holds what a memory tells of its accesses against what it should.
func told(t *testing.T, m *cell.Memory, steps, wins, word, kind int) {
	t.Helper()
	if m.Steps() != steps || m.Wins() != wins {
		t.Errorf("Steps %d, Wins %d, want %d, %d", m.Steps(), m.Wins(), steps, wins)
	}
	if i, k, ok := m.Last(); i != word || k != kind || ok != (kind != 0) {
		t.Errorf("Last = %d, %d, %t, want %d, %d, %t", i, k, ok, word, kind, kind != 0)
	}
}

// 3.1: the bounds of New, and a memory that nobody used yet.
func TestNew(t *testing.T) {
	for _, n := range []int{0, -1, -4096, 4097, 8192, 1 << 16, 1<<32 + 1, math.MaxInt, math.MinInt} {
		if m, e := cell.New(n); m != nil || e != api.ErrArg {
			t.Errorf("New(%d) = %v, %d", n, m, e)
		}
	}
	for _, n := range []int{1, 2, 3, 100, 4095, 4096} {
		m := memory(t, n)
		if m.Len() != n {
			t.Errorf("Len = %d, want %d", m.Len(), n)
		}
		told(t, m, 0, 0, 0, 0)
		for i := range n {
			if v := m.Load(i); v != 0 {
				t.Errorf("word %d of %d = %d", i, n, v)
			}
		}
		told(t, m, n, 0, n-1, api.ALoad)
		if m.Load(n) != 0 || m.Len() != n {
			t.Errorf("a word beyond %d", n)
		}
		told(t, m, n, 0, n-1, api.ALoad)
	}
}

// 3.1: the chapter's example.
func TestExample(t *testing.T) {
	m := memory(t, 1)
	m.Store(0, 5)
	if !m.CAS(0, 5, 6) {
		t.Error("CAS is false")
	}
	if v := m.Load(0); v != 6 {
		t.Errorf("Load = %d", v)
	}
	told(t, m, 3, 1, 0, api.ALoad)
}

// 3.1
func TestStore(t *testing.T) {
	m := memory(t, 3)
	for i, v := range []uint64{1, most, 1 << 63} {
		m.Store(i, v)
		told(t, m, i+1, 0, i, api.AStore)
	}
	for i, v := range []uint64{1, most, 1 << 63} {
		if got := m.Load(i); got != v {
			t.Errorf("word %d = %d, want %d", i, got, v)
		}
		told(t, m, i+4, 0, i, api.ALoad)
	}
	m.Store(1, 0)
	if m.Load(1) != 0 || m.Load(0) != 1 || m.Load(2) != 1<<63 {
		t.Error("a Store changed another word, or not its own")
	}
}

// 3.1
func TestCAS(t *testing.T) {
	m := memory(t, 3)
	for n, x := range []struct {
		i        int
		old, new uint64
		ok       bool
		wins     int
		word     uint64
	}{
		{1, 0, 7, true, 1, 7},
		{1, 0, 8, false, 1, 7},
		{1, 7, 7, true, 2, 7},
		{1, 7, most, true, 3, most},
		{1, most - 1, 5, false, 3, most},
		{1, most, 0, true, 4, 0},
		{2, 1, 9, false, 4, 0},
		{2, 9, 9, false, 4, 0},
		{2, 0, 0, true, 5, 0},
		{0, 1 << 63, 1, false, 5, 0},
		{0, 0, 1 << 63, true, 6, 1 << 63},
		{0, 0, 1, false, 6, 1 << 63},
	} {
		if ok := m.CAS(x.i, x.old, x.new); ok != x.ok {
			t.Errorf("%d: CAS = %t", n, ok)
		}
		told(t, m, 2*n+1, x.wins, x.i, api.ACAS)
		if v := m.Load(x.i); v != x.word {
			t.Errorf("%d: word %d = %d, want %d", n, x.i, v, x.word)
		}
	}
}

// 3.1
func TestAdd(t *testing.T) {
	m := memory(t, 3)
	for n, x := range []struct {
		i        int
		by, want uint64
	}{
		{0, 7, 7},
		{0, 0, 7},
		{0, most - 7, most},
		{0, 0, most},
		{0, 1, 0},
		{0, most, most},
		{0, most, most - 1},
		{0, 3, 1},
		{2, 1 << 63, 1 << 63},
		{2, 1 << 63, 0},
		{2, 1, 1},
		{2, most, 0},
	} {
		if got := m.Add(x.i, x.by); got != x.want {
			t.Errorf("%d: Add(%d, %d) = %d, want %d", n, x.i, x.by, got, x.want)
		}
		told(t, m, 2*n+1, 0, x.i, api.AAdd)
		if v := m.Load(x.i); v != x.want {
			t.Errorf("%d: word %d = %d, want %d", n, x.i, v, x.want)
		}
	}
	if v := m.Load(1); v != 0 {
		t.Errorf("word 1 = %d", v)
	}
}

// 3.1: a word that is none is no access, neither ahead of the first one nor behind it.
func TestNoSuchWord(t *testing.T) {
	m := memory(t, 3)
	outside := func() {
		t.Helper()
		for _, i := range none {
			m.Store(i, 9)
			if v := m.Load(i); v != 0 {
				t.Errorf("Load(%d) = %d", i, v)
			}
			if m.CAS(i, 0, 9) || m.CAS(i, 0, 0) || m.CAS(i, 9, 9) {
				t.Errorf("CAS(%d) is true", i)
			}
			if v := m.Add(i, 5); v != 0 {
				t.Errorf("Add(%d) = %d", i, v)
			}
		}
	}
	outside()
	told(t, m, 0, 0, 0, 0)
	m.Store(0, 4)
	m.Store(1, 5)
	m.CAS(2, 0, 6)
	outside()
	told(t, m, 3, 1, 2, api.ACAS)
	if m.Load(0) != 4 || m.Load(1) != 5 || m.Load(2) != 6 || m.Len() != 3 {
		t.Error("an access outside changed a word")
	}
}

// 3.1: Len, Steps, Wins and Last only tell; asking them is no access.
func TestAskingIsNoAccess(t *testing.T) {
	m := memory(t, 2)
	m.CAS(1, 0, 3)
	for range 5 {
		m.Len()
		told(t, m, 1, 1, 1, api.ACAS)
	}
}

// 3.1: two memories share nothing.
func TestTwoMemories(t *testing.T) {
	a, b := memory(t, 2), memory(t, 2)
	a.Store(0, 5)
	a.CAS(1, 0, 6)
	told(t, a, 2, 1, 1, api.ACAS)
	told(t, b, 0, 0, 0, 0)
	if b.Load(0) != 0 || b.Load(1) != 0 {
		t.Error("one memory's words are the other's")
	}
	told(t, a, 2, 1, 1, api.ACAS)
}

// 3.2, W2: of several that saw the same word, one wins, whoever comes first.
func TestOneWins(t *testing.T) {
	for first := range 4 {
		m := memory(t, 1)
		m.Store(0, 40)
		seen := [4]uint64{}
		for w := range seen {
			seen[w] = m.Load(0)
		}
		for turn := range 4 {
			w := (first + turn) % 4
			if ok := m.CAS(0, seen[w], uint64(50+w)); ok != (turn == 0) {
				t.Errorf("worker %d in turn %d: CAS = %t", w, turn, ok)
			}
		}
		if v := m.Load(0); v != uint64(50+first) || m.Wins() != 1 {
			t.Errorf("word = %d, Wins = %d", v, m.Wins())
		}
	}
}

// model is a memory told as plainly as may be: a list of what was written, where what counts is what was written last.
type model struct {
	size        int
	writes      []write
	steps, wins int
	word, kind  int
}

type write struct {
	word  int
	value uint64
}

func (m *model) has(i, kind int) bool {
	if i < 0 || i >= m.size {
		return false
	}
	m.steps++
	m.word, m.kind = i, kind
	return true
}

func (m *model) read(i int) uint64 {
	for n := len(m.writes) - 1; n >= 0; n-- {
		if m.writes[n].word == i {
			return m.writes[n].value
		}
	}
	return 0
}

// do makes one access on both, and answers what each of them told.
func (m *model) do(c *cell.Memory, kind, i int, a, b uint64) (got, want uint64) {
	one := map[bool]uint64{true: 1}
	has := m.has(i, kind)
	switch kind {
	case api.ALoad:
		if has {
			want = m.read(i)
		}
		return c.Load(i), want
	case api.AStore:
		if has {
			m.writes = append(m.writes, write{i, a})
		}
		c.Store(i, a)
		return 0, 0
	case api.ACAS:
		if has && m.read(i) == a {
			m.writes = append(m.writes, write{i, b})
			m.wins++
			want = 1
		}
		return one[c.CAS(i, a, b)], want
	}
	if has {
		want = m.read(i) + a
		m.writes = append(m.writes, write{i, want})
	}
	return c.Add(i, a), want
}

// 3.2: long rows of accesses, of words that are and that are not, against the list of what was written.
func TestReadsWhatWasWrittenLast(t *testing.T) {
	values := []uint64{0, 1, 2, 1 << 32, 1 << 63, most - 1, most}
	for seed := uint64(1); seed <= 20; seed++ {
		state := seed
		draw := func(n int) int {
			state = state*6364136223846793005 + 1442695040888963407
			return int(state >> 33 % uint64(n))
		}
		size := 1 + draw(5)
		c, m := memory(t, size), &model{size: size}
		for step := range 1000 {
			kind, i := 1+draw(4), draw(size+2)-1
			a, b := values[draw(len(values))], values[draw(len(values))]
			if got, want := m.do(c, kind, i, a, b); got != want {
				t.Fatalf("seed %d, step %d, kind %d of word %d: %d, want %d", seed, step, kind, i, got, want)
			}
			told(t, c, m.steps, m.wins, m.word, m.kind)
		}
		for i := range size {
			if got, want := c.Load(i), m.read(i); got != want {
				t.Errorf("seed %d: word %d = %d, want %d", seed, i, got, want)
			}
		}
	}
}

// 3.3
func TestNoPanic(t *testing.T) {
	defer func() {
		if r := recover(); r != nil {
			t.Fatal(r)
		}
	}()
	for _, n := range append([]int{0, 1, 2, 3, 4095, 4097}, none...) {
		m, e := cell.New(n)
		if e != api.OK {
			continue
		}
		for _, i := range append([]int{0, 1, 2, n - 1, n, n + 1, -n}, none...) {
			for _, v := range []uint64{0, 1, 1 << 63, most} {
				m.Load(i)
				m.Store(i, v)
				m.CAS(i, v, ^v)
				m.Add(i, v)
			}
		}
		m.Len()
		m.Steps()
		m.Wins()
		m.Last()
	}
}
