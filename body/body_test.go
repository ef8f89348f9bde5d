package body_test

import (
	"math"
	"slices"
	"strings"
	"testing"

	"verger/api"
	"verger/body"
)

func nops(n int) []api.Op {
	return slices.Repeat([]api.Op{{Kind: api.BNop}}, n)
}

// bodies are texts, each with the body that it tells.
var bodies = []struct {
	text string
	ops  []api.Op
}{
	{"-", nil},
	{"nop", []api.Op{{Kind: 1}}},
	{"submit 0", []api.Op{{Kind: 2}}},
	{"submit 3", []api.Op{{Kind: 2, A: 3}}},
	{"submit 7", []api.Op{{Kind: 2, A: 7}}},
	{"after 0 0", []api.Op{{Kind: 3}}},
	{"after 7 0", []api.Op{{Kind: 3, A: 7}}},
	{"after 0 1", []api.Op{{Kind: 3, B: 1}}},
	{"after 5 10", []api.Op{{Kind: 3, A: 5, B: 10}}},
	{"after 0 1000000", []api.Op{{Kind: 3, B: 1000000}}},
	{"after 7 999999", []api.Op{{Kind: 3, A: 7, B: 999999}}},
	{"after 7 1000000", []api.Op{{Kind: 3, A: 7, B: 1000000}}},
	{"cancel 1", []api.Op{{Kind: 4, A: 1}}},
	{"cancel 10", []api.Op{{Kind: 4, A: 10}}},
	{"cancel 1000", []api.Op{{Kind: 4, A: 1000}}},
	{"panic", []api.Op{{Kind: 5}}},
	{"submit 3;panic", []api.Op{{Kind: 2, A: 3}, {Kind: 5}}},
	{"panic;panic", []api.Op{{Kind: 5}, {Kind: 5}}},
	{"nop;submit 1;after 2 3;cancel 4;panic", []api.Op{{Kind: 1}, {Kind: 2, A: 1}, {Kind: 3, A: 2, B: 3}, {Kind: 4, A: 4}, {Kind: 5}}},
	{"cancel 1000;panic;nop", []api.Op{{Kind: 4, A: 1000}, {Kind: 5}, {Kind: 1}}},
	{strings.Repeat("nop;", 15) + "nop", nops(16)},
	{strings.Repeat("after 7 1000000;", 15) + "after 7 1000000", slices.Repeat([]api.Op{{Kind: 3, A: 7, B: 1000000}}, 16)},
}

// 16.1, 16.2, 16.3, W9: each body is Ok, is told by its text, and is read from it as it was.
func TestBodies(t *testing.T) {
	for _, x := range bodies {
		if !body.Ok(x.ops) {
			t.Errorf("Ok(%v) is false", x.ops)
		}
		if s, e := body.Text(x.ops); s != x.text || e != api.OK {
			t.Errorf("Text(%v) = %q, %d, want %q", x.ops, s, e, x.text)
		}
		if l, e := body.Parse(x.text); !slices.Equal(l, x.ops) || e != api.OK {
			t.Errorf("Parse(%q) = %v, %d, want %v", x.text, l, e, x.ops)
		}
	}
}

// 16.1: which number of which kind has which bounds, just inside and just outside, and raw ones.
func TestBounds(t *testing.T) {
	raw := []int{-1, -2, -7, -1000, 8, 9, 1001, 1002, 1000001, 1000002, 1 << 32, 1<<32 + 1, math.MaxInt, math.MinInt, math.MinInt + 1}
	edges := append([]int{0, 1, 2, 6, 7, 8, 16, 999, 1000, 1001, 999999, 1000000, 1000001}, raw...)
	for _, kind := range append([]int{0, 1, 2, 3, 4, 5, 6, 7, 16}, raw...) {
		for _, a := range edges {
			for _, b := range edges {
				o := api.Op{Kind: kind, A: a, B: b}
				if ok := body.Ok([]api.Op{o}); ok != may(o) {
					t.Errorf("Ok(%v) is %v", o, ok)
				}
			}
		}
	}
}

// may is the first promise's sentence, kind by kind.
func may(o api.Op) bool {
	switch o.Kind {
	case api.BNop, api.BPanic:
		return o.A == 0 && o.B == 0
	case api.BSubmit:
		return 0 <= o.A && o.A <= 7 && o.B == 0
	case api.BAfter:
		return 0 <= o.A && o.A <= 7 && 0 <= o.B && o.B <= 1000000
	case api.BCancel:
		return 1 <= o.A && o.A <= 1000 && o.B == 0
	}
	return false
}

// 16.1, 16.2: at most 16 ops, and a wrong one is wrong wherever it stands; Text answers ErrArg and no text.
func TestNotOk(t *testing.T) {
	wrong := [][]api.Op{nops(17), nops(18), nops(32), nops(1000), slices.Repeat([]api.Op{{}}, 17)}
	for n := 1; n <= 16; n++ {
		for i := range n {
			for _, o := range []api.Op{{}, {Kind: 6}, {Kind: -1}, {Kind: 1, A: 1}, {Kind: 1, B: 1}, {Kind: 2, A: 8}, {Kind: 2, B: 1}, {Kind: 3, A: 8}, {Kind: 3, B: 1000001}, {Kind: 4}, {Kind: 4, A: 1001}, {Kind: 4, A: 1, B: -1}, {Kind: 5, A: 1}, {Kind: 5, B: 1}, {Kind: math.MaxInt}, {Kind: math.MinInt}} {
				l := nops(n)
				l[i] = o
				wrong = append(wrong, l)
			}
		}
	}
	for _, l := range wrong {
		if s, e := body.Text(l); body.Ok(l) || s != "" || e != api.ErrArg {
			t.Errorf("Ok(%v) is %v, Text %q, %d", l, body.Ok(l), s, e)
		}
	}
	for n := range 17 {
		if !body.Ok(nops(n)) {
			t.Errorf("%d ops are not Ok", n)
		}
	}
	if !body.Ok([]api.Op{{Kind: api.BPanic}, {Kind: api.BNop}}) || body.Ok([]api.Op{{Kind: api.BPanic}, {}}) {
		t.Error("what stands behind a panic is held to the same rule")
	}
}

// 16.1: Steps goes up to the first panic, itself too, whatever else stands there.
func TestSteps(t *testing.T) {
	for _, x := range []struct {
		l    []api.Op
		want int
	}{
		{nil, 0},
		{[]api.Op{}, 0},
		{[]api.Op{{Kind: 1}}, 1},
		{[]api.Op{{Kind: 5}}, 1},
		{[]api.Op{{Kind: 5}, {Kind: 5}, {Kind: 5}}, 1},
		{[]api.Op{{Kind: 2, A: 3}, {Kind: 5}}, 2},
		{[]api.Op{{Kind: 1}, {Kind: 5}, {Kind: 1}, {Kind: 5}}, 2},
		{[]api.Op{{Kind: 1, A: 5, B: 5}, {Kind: 2, A: 5}, {Kind: 4, A: 5}}, 3},
		{[]api.Op{{Kind: 9}, {Kind: 5, A: -1}, {}}, 2},
		{[]api.Op{{}, {Kind: -5}, {Kind: math.MinInt}, {Kind: 5 + 1<<32}}, 4},
		{nops(16), 16},
		{nops(17), 17},
		{append(nops(40), api.Op{Kind: 5}, api.Op{Kind: 1}), 41},
	} {
		if n := body.Steps(x.l); n != x.want {
			t.Errorf("Steps(%v) = %d, want %d", x.l, n, x.want)
		}
	}
	for n := 1; n <= 16; n++ {
		for i := range n {
			l := nops(n)
			l[i].Kind = api.BPanic
			if got := body.Steps(l); got != i+1 {
				t.Errorf("a panic at %d of %d: Steps = %d", i, n, got)
			}
		}
	}
}

// 16.2: what is no text of a body.
func TestNoText(t *testing.T) {
	for _, s := range []string{
		"", " ", "\n", "\x00", "--", "- ", " -", "-;", ";-", "-;-", "-;nop", "nop;-", "0", "1", "2 3",
		";", ";;", "nop;", ";nop", "nop;;nop", "nop ;nop", "nop; nop", "nop;\nnop", "nop,nop", "nop:nop",
		" nop", "nop ", "nop\n", "nop\x00", "\x00nop", "\ufeffnop", "nop nop", "nop 0", "nop 1", "nopx", "no", "NOP", "Nop", "nóp",
		"submit", "submit ", "submit  3", "submit 3 ", " submit 3", "submit\t3", "submit3", "submit 3 0", "submit 1 2", "submit 3;", "submit 8", "submit 9", "submit 10", "submit 00", "submit 01", "submit 07",
		"submit -0", "submit -1", "submit +1", "submit +0", "submit 1.0", "submit 0x1", "submit 1e0", "submit 1_0", "submit x", "submit ٣", "submit ３", "submit 3\xff", "submit \xff", "Submit 3", "SUBMIT 3", "submi 3", "submits 3",
		"submit 18446744073709551616", "submit 18446744073709551619", "submit 4294967299", "submit 99999999999999999999", "submit " + strings.Repeat("0", 390), "submit " + strings.Repeat("9", 390),
		"after", "after ", "after 1", "after 1 ", "after  1 2", "after 1  2", "after 1 2 ", "after 1 2 3", "after 8 2", "after 1 1000001", "after 1 9999999", "after 1 10000000", "after 0 00", "after 0 01", "after 00 1", "after 0 -1", "after 0 +1", "after 1 0000001", "after 1,2", "after 1;2", "after 0 18446744073709551616", "After 1 2",
		"cancel", "cancel ", "cancel 0", "cancel 00", "cancel 01", "cancel 1001", "cancel 10000", "cancel -1", "cancel x", "cancel 1 1", "cancel 1 0", "cancel 18446744073709551617", "Cancel 1",
		"panic ", "panic 0", "panic 1", " panic", "Panic", "panic!", "panics",
		"submit 3;panic;", "submit 3;;panic", ";submit 3;panic", "submit 3;submit", "submit 3;submit 8", "cancel 0;nop", "nop;cancel 0",
		strings.Repeat("nop;", 16) + "nop", strings.Repeat("nop;", 16), strings.Repeat("nop;", 99) + "nop",
		strings.Repeat(";", 400), strings.Repeat(" ", 400), strings.Repeat("x", 400), strings.Repeat("\xff", 400), strings.Repeat("nop;", 100),
	} {
		if l, e := body.Parse(s); len(l) != 0 || e != api.ErrForm {
			t.Errorf("Parse(%q) = %v, %d", s, l, e)
		}
	}
}

// 16.2: more than 400 bytes are too long, whatever they are; bytes are counted, not runes.
func TestTooLong(t *testing.T) {
	for _, piece := range []string{"x", ";", " ", "0", "-", "\x00", "\xff", "é", "nop;", "submit 3;"} {
		for n := 395; n <= 405; n++ {
			s := strings.Repeat(piece, n)[:n]
			want := api.ErrForm
			if n > 400 {
				want = api.ErrLong
			}
			if l, e := body.Parse(s); len(l) != 0 || e != want {
				t.Errorf("%d bytes of %q: %v, %d", n, piece, l, e)
			}
		}
	}
	if l, e := body.Parse(strings.Repeat("é", 201)); len(l) != 0 || e != api.ErrLong {
		t.Errorf("201 runes of two bytes: %v, %d", l, e)
	}
	if l, e := body.Parse(strings.Repeat("nop;", 1<<20)); len(l) != 0 || e != api.ErrLong {
		t.Errorf("four million bytes: %v, %d", l, e)
	}
	if l, e := body.Parse("nop" + strings.Repeat(" ", 398)); len(l) != 0 || e != api.ErrLong {
		t.Errorf("a nop with 398 spaces: %v, %d", l, e)
	}
}

// 16.4: Same is by ops and order; nil and an empty list are the same, and what is no body is answered too.
func TestSame(t *testing.T) {
	a := []api.Op{{Kind: 2, A: 3}, {Kind: 3, A: 1, B: 2}, {Kind: 5}}
	for _, x := range []struct {
		a, b []api.Op
		want bool
	}{
		{nil, nil, true},
		{nil, []api.Op{}, true},
		{[]api.Op{}, nil, true},
		{nil, []api.Op{{}}, false},
		{[]api.Op{{Kind: 1}}, nil, false},
		{a, slices.Clone(a), true},
		{a, a[:2], false},
		{a[:2], a, false},
		{a, []api.Op{a[0], a[2], a[1]}, false},
		{a, []api.Op{{Kind: 2, A: 4}, a[1], a[2]}, false},
		{a, []api.Op{a[0], {Kind: 3, A: 1, B: 3}, a[2]}, false},
		{a, []api.Op{a[0], a[1], {Kind: 1}}, false},
		{[]api.Op{{Kind: math.MinInt, A: math.MaxInt, B: -1}}, []api.Op{{Kind: math.MinInt, A: math.MaxInt, B: -1}}, true},
		{nops(17), nops(17), true},
		{nops(17), nops(16), false},
		{nops(1000), nops(1001), false},
	} {
		if body.Same(x.a, x.b) != x.want {
			t.Errorf("Same(%v, %v) is %v", x.a, x.b, !x.want)
		}
	}
}
