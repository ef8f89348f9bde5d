package exec

import (
	"math"
	"testing"

	"verger/api"
)

// 20.1, 20.2: a Rest ends even where a machine would never be quiet, as no machine is that New gives: one of its workers is laid in a phase that is none.
func TestRestHasMostRounds(t *testing.T) {
	m, _ := New(api.Conf{Threads: 1, K: 0, Credits: 1})
	m.workers[0].Phase = 9
	picks := 0
	for _, x := range []struct{ most, rounds int }{
		{math.MinInt, 0}, {-1, 0}, {0, 0}, {1, 1}, {1000, 1000}, {99_999, 99_999}, {100_000, 100_000}, {100_001, 100_000}, {math.MaxInt, 100_000},
	} {
		if n, ok := m.Rest(x.most, 0); n != x.rounds || ok {
			t.Errorf("Rest(%d): %d, %t, want %d", x.most, n, ok, x.rounds)
		}
		picks += x.rounds
		if m.Picks() != picks || m.did[api.DIdle] != picks {
			t.Errorf("%d Picks, want %d", m.Picks(), picks)
		}
	}
}
