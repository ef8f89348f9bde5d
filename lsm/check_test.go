package lsm

import (
	"testing"

	"verger/api"
	"verger/block"
)

// 7.1: a broken one is told, wherever the break is. No call makes one, so the blocks are laid here by hand.
func TestCheck(t *testing.T) {
	a, b, c := api.Entry{Key: 1, ID: 1}, api.Entry{Key: 2, ID: 2}, api.Entry{Key: 3, ID: 3}
	zero := block.Of([]api.Entry{a})
	one := block.Of([]api.Entry{a, b})
	two := block.Of([]api.Entry{a, b, c})
	for i, x := range []struct {
		blocks []block.Block
		want   api.Errno
	}{
		{nil, api.OK},
		{[]block.Block{zero}, api.OK},
		{[]block.Block{two, one, zero}, api.OK},
		{[]block.Block{two, zero}, api.OK},
		{[]block.Block{{}}, api.ErrForm},
		{[]block.Block{one, {}}, api.ErrForm},
		{[]block.Block{{}, one}, api.ErrForm},
		{[]block.Block{zero, zero}, api.ErrForm},
		{[]block.Block{two, one, one}, api.ErrForm},
		{[]block.Block{zero, one}, api.ErrForm},
		{[]block.Block{one, two, zero}, api.ErrForm},
		{[]block.Block{{Level: 1, L: []api.Entry{b, a}}}, api.ErrForm},
		{[]block.Block{{Level: 1, L: []api.Entry{a}}}, api.ErrForm},
		{[]block.Block{{Level: 0, L: []api.Entry{a, b}}}, api.ErrForm},
		{[]block.Block{{Level: -1, L: []api.Entry{a}}}, api.ErrForm},
		{[]block.Block{two, {Level: 1, L: []api.Entry{b, a}}, zero}, api.ErrForm},
		{[]block.Block{two, one, {Level: 0, L: []api.Entry{a, b}}}, api.ErrForm},
	} {
		m := &LSM{blocks: x.blocks}
		if got := m.Check(); got != x.want {
			t.Errorf("row %d: Check() = %v, want %v", i, got, x.want)
		}
	}
}
