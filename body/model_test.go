package body_test

import (
	"fmt"
	"regexp"
	"slices"
	"strings"
	"testing"

	"verger/api"
	"verger/body"
)

// word is what a plain reader takes for an op; what is behind a word's bounds is left to may.
var word = regexp.MustCompile(`^(?:(nop)|(submit) (0|[1-9][0-9]{0,9})|(after) (0|[1-9][0-9]{0,9}) (0|[1-9][0-9]{0,9})|(cancel) (0|[1-9][0-9]{0,9})|(panic))\z`)

// plain reads a text op by op, by a pattern.
func plain(s string) ([]api.Op, api.Errno) {
	if len(s) > 400 {
		return nil, api.ErrLong
	}
	if s == "-" {
		return nil, api.OK
	}
	var l []api.Op
	for _, text := range strings.Split(s, ";") {
		if !word.MatchString(text) {
			return nil, api.ErrForm
		}
		var o api.Op
		var name string
		fmt.Sscan(text, &name, &o.A, &o.B)
		o.Kind = 1 + slices.Index([]string{"nop", "submit", "after", "cancel", "panic"}, name)
		if !may(o) {
			return nil, api.ErrForm
		}
		l = append(l, o)
	}
	if len(l) > 16 {
		return nil, api.ErrForm
	}
	return l, api.OK
}

// both holds Parse against the plain reader, and what is read against its text.
func both(t *testing.T, s string) {
	t.Helper()
	l, e := body.Parse(s)
	want, f := plain(s)
	if e != f || !slices.Equal(l, want) {
		t.Fatalf("Parse(%q) = %v, %d, want %v, %d", s, l, e, want, f)
	}
	if e != api.OK {
		if l != nil {
			t.Fatalf("Parse(%q): a list beside %d", s, e)
		}
		return
	}
	if back, g := body.Text(l); back != s || g != api.OK {
		t.Fatalf("Text(Parse(%q)) = %q, %d", s, back, g)
	}
}

// 16.2, 16.3: every row of up to five pieces of texts.
func TestEveryRow(t *testing.T) {
	pieces := []string{"nop", "submit", "after", "cancel", "panic", " ", ";", "-", "0", "1", "8", "1000", "000", "\xff"}
	var row func(s string, left int)
	row = func(s string, left int) {
		both(t, s)
		if left == 0 {
			return
		}
		for _, p := range pieces {
			row(s+p, left-1)
		}
	}
	row("", 5)
}

// 16.2, 16.3: every text of up to two bytes, and every byte at each place of a text.
func TestEveryByte(t *testing.T) {
	for a := range 256 {
		both(t, string([]byte{byte(a)}))
		for b := range 256 {
			both(t, string([]byte{byte(a), byte(b)}))
		}
	}
	s := "nop;submit 1;after 2 30;cancel 100;panic"
	for i := range len(s) + 1 {
		if i < len(s) {
			both(t, s[:i]+s[i+1:])
		}
		both(t, s[:i])
		both(t, s[i:])
		for b := range 256 {
			both(t, s[:i]+string([]byte{byte(b)})+s[i:])
			if i < len(s) {
				both(t, s[:i]+string([]byte{byte(b)})+s[i+1:])
			}
		}
	}
}

// 16.2: every number of each kind, beyond its bounds too.
func TestEveryNumber(t *testing.T) {
	for n := range 1200 {
		both(t, fmt.Sprintf("submit %d", n))
		both(t, fmt.Sprintf("cancel %d", n))
		both(t, fmt.Sprintf("after %d 5", n))
		both(t, fmt.Sprintf("after 5 %d", n))
		both(t, fmt.Sprintf("after 5 0%d", n))
	}
	for n := 999000; n < 1001000; n++ {
		both(t, fmt.Sprintf("after 5 %d", n))
	}
	for n := 1; n < 1<<33; n = n*3 + 1 {
		both(t, fmt.Sprintf("submit %d", n))
		both(t, fmt.Sprintf("cancel %d", n))
		both(t, fmt.Sprintf("after 5 %d", n))
		both(t, fmt.Sprintf("after %d 5", n))
	}
}

type draws uint64

func (d *draws) next(n int) int {
	*d ^= *d << 13
	*d ^= *d >> 7
	*d ^= *d << 17
	return int(uint64(*d) % uint64(n))
}

func (d *draws) op() api.Op {
	switch d.next(5) {
	case 0:
		return api.Op{Kind: api.BNop}
	case 1:
		return api.Op{Kind: api.BSubmit, A: d.next(8)}
	case 2:
		return api.Op{Kind: api.BAfter, A: d.next(8), B: d.next(1000001)}
	case 3:
		return api.Op{Kind: api.BCancel, A: 1 + d.next(1000)}
	}
	return api.Op{Kind: api.BPanic}
}

// 16.3, W9: drawn bodies are read from their text as they were; one more op, or one op changed, and the texts part.
func TestThereAndBack(t *testing.T) {
	d := draws(88172645463325252)
	for range 20000 {
		l := make([]api.Op, d.next(17))
		for i := range l {
			l[i] = d.op()
		}
		s, e := body.Text(l)
		if e != api.OK || len(s) > 400 {
			t.Fatalf("Text(%v) = %q, %d", l, s, e)
		}
		back, e := body.Parse(s)
		if e != api.OK || !body.Same(back, l) || !slices.Equal(back, l) {
			t.Fatalf("Parse(%q) = %v, %d, want %v", s, back, e, l)
		}
		both(t, s)
		both(t, mixed(&d, s))
		if len(l) == 0 {
			continue
		}
		other := slices.Clone(l)
		other[d.next(len(l))] = d.op()
		told, _ := body.Text(other)
		if body.Same(l, other) != slices.Equal(l, other) || (told == s) != slices.Equal(l, other) {
			t.Fatalf("%v and %v: %q and %q", l, other, s, told)
		}
	}
}

// mixed is s with a few bytes changed, put in or left out.
func mixed(d *draws, s string) string {
	b := []byte(s)
	for range 1 + d.next(3) {
		i := d.next(len(b) + 1)
		c := " ;-0123456789nopsubmitafercl\x00\xff"[d.next(32)%30]
		switch {
		case i == len(b) || d.next(3) == 0:
			b = slices.Insert(b, i, c)
		case d.next(2) == 0:
			b[i] = c
		default:
			b = slices.Delete(b, i, i+1)
		}
	}
	return string(b)
}

// 16.1: Steps against a plain count, over every row of up to six ops of kinds 0 to 6.
func TestEverySteps(t *testing.T) {
	var row func(l []api.Op, done int, over bool)
	row = func(l []api.Op, done int, over bool) {
		if n := body.Steps(l); n != done {
			t.Fatalf("Steps(%v) = %d, want %d", l, n, done)
		}
		if len(l) == 6 {
			return
		}
		for kind := range 7 {
			next := done
			if !over {
				next++
			}
			row(append(slices.Clone(l), api.Op{Kind: kind}), next, over || kind == api.BPanic)
		}
	}
	row(nil, 0, false)
}

// 16.4: what is handed in stays as it is, its spare room too; what is answered is new each time.
func TestMemory(t *testing.T) {
	room := append(nops(3), api.Op{Kind: 2, A: 3}, api.Op{Kind: 5}, api.Op{Kind: 99, A: 98, B: 97})
	was := slices.Clone(room)
	l := room[:5]
	body.Ok(l)
	body.Text(l)
	body.Steps(l)
	body.Same(l, room[1:4])
	body.Text(room)
	if !slices.Equal(room, was) {
		t.Errorf("%v was changed to %v", was, room)
	}
	a, _ := body.Parse("nop;submit 3;panic")
	b, _ := body.Parse("nop;submit 3;panic")
	a = a[:cap(a)]
	for i := range a {
		a[i] = api.Op{Kind: 77, A: 77, B: 77}
	}
	c, _ := body.Parse("nop;submit 3;panic")
	want := []api.Op{{Kind: 1}, {Kind: 2, A: 3}, {Kind: 5}}
	if !slices.Equal(b, want) || !slices.Equal(c, want) {
		t.Errorf("an answer was changed through another: %v, %v", b, c)
	}
	if s, e := body.Text(want); s != "nop;submit 3;panic" || e != api.OK {
		t.Errorf("Text = %q, %d", s, e)
	}
}

// 16.3, 16.4, W10: any bytes are answered.
func FuzzParse(f *testing.F) {
	for _, x := range bodies {
		f.Add(x.text)
	}
	f.Add(strings.Repeat("x", 401))
	f.Fuzz(func(t *testing.T, s string) {
		both(t, s)
	})
}

// 16.3, 16.4, W10: any list is answered: what is Ok comes back, and the rest is ErrArg.
func FuzzText(f *testing.F) {
	f.Add(1, 0, 0, 3)
	f.Add(3, 7, 1000000, 16)
	f.Add(5, 0, 0, 17)
	f.Fuzz(func(t *testing.T, kind, a, b, n int) {
		o := api.Op{Kind: kind, A: a, B: b}
		n &= 31
		l := slices.Repeat([]api.Op{o}, n)
		ok := n <= 16 && (n == 0 || may(o))
		s, e := body.Text(l)
		if body.Ok(l) != ok || (e == api.OK) != ok {
			t.Fatalf("%v: Ok %v, Text %q, %d", l, body.Ok(l), s, e)
		}
		if !ok {
			if s != "" || e != api.ErrArg {
				t.Fatalf("Text(%v) = %q, %d", l, s, e)
			}
			return
		}
		if back, g := body.Parse(s); g != api.OK || !slices.Equal(back, l) {
			t.Fatalf("Parse(%q) = %v, %d, want %v", s, back, g, l)
		}
	})
}
