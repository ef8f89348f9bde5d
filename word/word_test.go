package word_test

import (
	"math"
	"testing"

	"verger/api"
	"verger/word"
)

const lastVersion = 1<<61 - 1

var (
	farInts   = []int{math.MinInt, math.MinInt + 1, -65, -64, -8, -1, 0, 1, 2, 3, 4, 5, 6, 7, 8, 9, 14, 15, 31, 61, 62, 63, 64, 65, 99, math.MaxInt - 1, math.MaxInt}
	farWords  = []uint64{0, 1, 6, 7, 8, 14, 15, 1 << 60, 1<<61 - 1, 1 << 61, 1 << 63, 0xfedcba9876543210, 0x0123456789abcdef, 0xaaaaaaaaaaaaaaaa, math.MaxUint64 - 7, math.MaxUint64 - 1, math.MaxUint64}
	allStates = []int{api.SFree, api.SWaiting, api.SReady, api.SClaimed, api.SDone, api.SFailed, api.SCancelled}
)

// 1.1
func TestPack(t *testing.T) {
	for _, x := range []struct {
		state   int
		version uint64
		want    uint64
	}{
		{2, 1, 10},
		{0, 0, 0},
		{6, 0, 6},
		{7, 0, 7},
		{3, 5, 43},
		{0, lastVersion, math.MaxUint64 - 7},
		{7, lastVersion, math.MaxUint64},
		{6, 1 << 61, 6},
		{1, 1<<61 + 2, 17},
		{5, math.MaxUint64, math.MaxUint64 - 2},
		{8, 1, 8},
		{10, 1, 10},
		{-1, 0, 7},
		{-8, 3, 24},
		{math.MinInt, 2, 16},
		{math.MaxInt, 0, 7},
	} {
		if got := word.Pack(x.state, x.version); got != x.want {
			t.Errorf("Pack(%d, %d) = %d, want %d", x.state, x.version, got, x.want)
		}
	}
}

// 1.1
func TestStateVersionAndOk(t *testing.T) {
	for _, x := range []struct {
		w       uint64
		state   int
		version uint64
		ok      bool
	}{
		{0, 0, 0, true},
		{6, 6, 0, true},
		{7, 7, 0, false},
		{8, 0, 1, true},
		{10, 2, 1, true},
		{14, 6, 1, true},
		{15, 7, 1, false},
		{1 << 63, 0, 1 << 60, true},
		{math.MaxUint64 - 1, 6, lastVersion, true},
		{math.MaxUint64, 7, lastVersion, false},
	} {
		if s, v, ok := word.State(x.w), word.Version(x.w), word.Ok(x.w); s != x.state || v != x.version || ok != x.ok {
			t.Errorf("%d: state %d, version %d, ok %t; want %d, %d, %t", x.w, s, v, ok, x.state, x.version, x.ok)
		}
	}
}

// 1.1
func TestNext(t *testing.T) {
	for _, x := range []struct {
		w     uint64
		state int
		want  uint64
	}{
		{0, 0, 8},
		{10, 3, 19},
		{10, 2, 18},
		{15, 1, 17},
		{word.Pack(6, lastVersion), 1, 1},
		{math.MaxUint64, 0, 0},
		{word.Pack(4, lastVersion-1), 5, word.Pack(5, lastVersion)},
		{0, -1, 15},
		{0, 9, 9},
		{0, math.MinInt, 8},
	} {
		if got := word.Next(x.w, x.state); got != x.want {
			t.Errorf("Next(%d, %d) = %d, want %d", x.w, x.state, got, x.want)
		}
	}
}

// 1.1
func TestCan(t *testing.T) {
	may := map[int][]int{
		api.SFree:    {api.SWaiting, api.SReady, api.SCancelled},
		api.SWaiting: {api.SReady, api.SCancelled},
		api.SReady:   {api.SClaimed, api.SCancelled},
		api.SClaimed: {api.SWaiting, api.SDone, api.SFailed},
	}
	for _, from := range farInts {
		for _, to := range farInts {
			want := false
			for _, s := range may[from] {
				want = want || s == to
			}
			if got := word.Can(from, to); got != want {
				t.Errorf("Can(%d, %d) = %t, want %t", from, to, got, want)
			}
		}
	}
}

// 1.1
func TestOverAndName(t *testing.T) {
	names := map[int]string{0: "free", 1: "waiting", 2: "ready", 3: "claimed", 4: "done", 5: "failed", 6: "cancelled"}
	for _, s := range farInts {
		if got, want := word.Over(s), s == 4 || s == 5 || s == 6; got != want {
			t.Errorf("Over(%d) = %t, want %t", s, got, want)
		}
		if got := word.Name(s); got != names[s] {
			t.Errorf("Name(%d) = %q, want %q", s, got, names[s])
		}
	}
}

// 1.1: what is over goes nowhere any more.
func TestOverLeadsNowhere(t *testing.T) {
	for _, from := range allStates {
		leads := false
		for _, to := range allStates {
			leads = leads || word.Can(from, to)
		}
		if leads == word.Over(from) {
			t.Errorf("%s: leads on %t, over %t", word.Name(from), leads, word.Over(from))
		}
	}
}

// 1.2
func TestFieldAndWith(t *testing.T) {
	const w = 0xfedcba9876543210
	const v = 0xbaa
	for _, x := range []struct {
		at, n       int
		field, with uint64
	}{
		{0, 4, 0x0, 0xfedcba987654321a},
		{4, 8, 0x21, 0xfedcba9876543aa0},
		{8, 12, 0x432, 0xfedcba98765baa10},
		{60, 4, 0xf, 0xaedcba9876543210},
		{60, 5, 0xf, 0xaedcba9876543210},
		{60, math.MaxInt, 0xf, 0xaedcba9876543210},
		{62, 2, 3, 0xbedcba9876543210},
		{63, 1, 1, 0x7edcba9876543210},
		{63, 2, 1, 0x7edcba9876543210},
		{0, 63, w &^ (1 << 63), 1<<63 | v},
		{1, 63, w >> 1, v << 1},
		{0, 64, w, v},
		{0, 65, w, v},
		{0, math.MaxInt, w, v},
		{0, 0, 0, w},
		{0, -1, 0, w},
		{5, math.MinInt, 0, w},
		{-1, 1, 0, w},
		{-1, 64, 0, w},
		{-64, 99, 0, w},
		{math.MinInt, 4, 0, w},
		{64, 4, 0, w},
		{65, 1, 0, w},
		{math.MaxInt, math.MaxInt, 0, w},
	} {
		if got := word.Field(w, x.at, x.n); got != x.field {
			t.Errorf("Field(%d, %d) = %x, want %x", x.at, x.n, got, x.field)
		}
		if got := word.With(w, x.at, x.n, v); got != x.with {
			t.Errorf("With(%d, %d) = %x, want %x", x.at, x.n, got, x.with)
		}
	}
}

func bitOf(w uint64, i int) uint64 {
	return w / uint64(math.Pow(2, float64(i))) % 2
}

// slowField and slowWith go bit by bit, so that they share no trick with the package.
func slowField(w uint64, at, n int) uint64 {
	var out, worth uint64 = 0, 1
	for i := at; at >= 0 && i < 64 && i-at < n; i++ {
		out += bitOf(w, i) * worth
		worth *= 2
	}
	return out
}

func slowWith(w uint64, at, n int, v uint64) uint64 {
	var out, worth uint64 = 0, 1
	for i := range 64 {
		b := bitOf(w, i)
		if at >= 0 && i >= at && i-at < n {
			b = bitOf(v, i-at)
		}
		out += b * worth
		worth *= 2
	}
	return out
}

// 1.2
func TestFieldAndWithBitByBit(t *testing.T) {
	for _, w := range farWords {
		for at := -2; at < 67; at++ {
			for _, n := range farInts {
				if got, want := word.Field(w, at, n), slowField(w, at, n); got != want {
					t.Fatalf("Field(%x, %d, %d) = %x, want %x", w, at, n, got, want)
				}
				v := w*0x9e3779b97f4a7c15 + uint64(at)
				if got, want := word.With(w, at, n, v), slowWith(w, at, n, v); got != want {
					t.Fatalf("With(%x, %d, %d, %x) = %x, want %x", w, at, n, v, got, want)
				}
			}
		}
	}
}

// 1.3
func TestThereAndBack(t *testing.T) {
	for _, state := range allStates {
		for _, version := range []uint64{0, 1, 77, 1 << 32, 1 << 60, lastVersion - 1, lastVersion} {
			w := word.Pack(state, version)
			if word.State(w) != state || word.Version(w) != version || !word.Ok(w) {
				t.Errorf("Pack(%d, %d) is read as %d, %d, %t", state, version, word.State(w), word.Version(w), word.Ok(w))
			}
		}
	}
	for _, w := range farWords {
		if got := word.Pack(word.State(w), word.Version(w)); got != w {
			t.Errorf("%d comes back as %d", w, got)
		}
	}
}

// 1.3
func TestFieldsThereAndBack(t *testing.T) {
	for _, w := range farWords {
		for at := range 64 {
			for n := 1; n <= 64-at; n++ {
				v := ^w
				if got := word.Field(word.With(w, at, n, v), at, n); got != word.Field(v, 0, n) {
					t.Fatalf("%x: bits %d, %d are read as %x", w, at, n, got)
				}
				if got := word.With(w, at, n, word.Field(w, at, n)); got != w {
					t.Fatalf("%x: bits %d, %d laid anew give %x", w, at, n, got)
				}
			}
		}
	}
}

// 1.3
func TestVersionsRise(t *testing.T) {
	w := word.Pack(api.SFree, 0)
	for i, state := range []int{api.SWaiting, api.SReady, api.SClaimed, api.SWaiting, api.SReady, api.SClaimed, api.SClaimed, api.SDone, api.SFree} {
		w = word.Next(w, state)
		if word.State(w) != state || word.Version(w) != uint64(i+1) {
			t.Fatalf("change %d: state %d, version %d", i+1, word.State(w), word.Version(w))
		}
	}
	for _, w := range farWords {
		for _, state := range allStates {
			if got, want := word.Version(word.Next(w, state)), (word.Version(w)+1)%(1<<61); got != want {
				t.Errorf("behind version %d comes %d", word.Version(w), got)
			}
		}
	}
}

// 1.4
func TestNothingPanics(t *testing.T) {
	for _, w := range farWords {
		word.State(w)
		word.Version(w)
		word.Ok(w)
		for _, a := range farInts {
			word.Pack(a, w)
			word.Next(w, a)
			word.Over(a)
			word.Name(a)
			for _, b := range farInts {
				word.Can(a, b)
				word.Field(w, a, b)
				word.With(w, a, b, ^w)
			}
		}
	}
}

// 1.4
func FuzzWord(f *testing.F) {
	for _, w := range farWords {
		f.Add(w, ^w, 1, 2)
		f.Add(w, w, math.MinInt, math.MaxInt)
	}
	f.Fuzz(func(t *testing.T, w, v uint64, a, b int) {
		word.Pack(a, w)
		word.Next(w, a)
		word.Can(a, b)
		word.Over(a)
		word.Name(a)
		if got := word.Field(word.With(w, a, b, v), a, b); got != v&slowField(math.MaxUint64, a, b) {
			t.Errorf("With(%x, %d, %d, %x) is read as %x", w, a, b, v, got)
		}
	})
}
