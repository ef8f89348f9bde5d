package hist_test

import (
	"cmp"
	"fmt"
	"slices"
	"testing"

	"verger/api"
	"verger/hist"
)

// stand is how a task stands behind these events (waiting: 1, ready: 2, claimed: 3, over: 4), and the event that made it so.
func stand(ahead []api.Event, id int) (int, api.Event) {
	for _, e := range slices.Backward(ahead) {
		if e.ID != id {
			continue
		}
		switch e.Kind {
		case api.ERelease:
			return 2, e
		case api.EClaim:
			return 3, e
		case api.EDone, api.EFail, api.ECancel:
			return 4, e
		case api.EAgain:
			return 1, e
		}
	}
	return 1, api.Event{}
}

// count is how many of these there are of which ask is true.
func count(l []api.Event, ask func(e api.Event) bool) int {
	n := 0
	for _, e := range l {
		if ask(e) {
			n++
		}
	}
	return n
}

func isKind(kind int) func(e api.Event) bool {
	return func(e api.Event) bool { return e.Kind == kind }
}

// faulty tells whether one of the chapter's clauses forbids an event behind these, each clause by itself. Of ELooks it asks the first two alone.
func faulty(ahead []api.Event, e api.Event) bool {
	made := count(ahead, isKind(api.EMake))
	state, by := stand(ahead, e.ID)
	looksApart := slices.DeleteFunc(slices.Clone(ahead), isKind(api.ELook))
	for _, clause := range []bool{
		e.Kind != api.EMake && e.Kind != api.ETick && e.Kind != api.EClose && (e.ID < 1 || e.ID > made),
		e.Kind < 1 || e.Kind > 10,
	} {
		if clause {
			return true
		}
	}
	if e.Kind == api.ELook {
		return false
	}
	return slices.Contains([]bool{
		e.Kind == api.EMake && (e.ID != made+1 || e.ID > 200),
		e.Kind == api.ERelease && state != 1,
		e.Kind == api.EClaim && (state != 2 || e.Key != by.Key),
		(e.Kind == api.EDone || e.Kind == api.EFail || e.Kind == api.EAgain) && state != 3,
		e.Kind == api.ECancel && state > 2,
		e.Ticket != uint64(count(ahead, isKind(api.EClaim))),
		len(looksApart) > 0 && e.Now < looksApart[len(looksApart)-1].Now,
		e.Kind == api.EClose && count(ahead, isKind(api.EClose)) > 0,
		e.Kind == api.EMake && count(ahead, isKind(api.EClose)) > 0,
	}, true)
}

// plainOk is Ok of a conf that may be.
func plainOk(l []api.Event) api.Errno {
	for i, e := range l {
		if faulty(l[:i], e) {
			return api.ErrForm
		}
	}
	return api.OK
}

// plainReady asks each ID that there is how it stands.
func plainReady(l []api.Event, n int) []api.Entry {
	var out []api.Entry
	seen := map[int]int{}
	for i, e := range l {
		if i >= n {
			break
		}
		if state, by := stand(l[:min(n, len(l))], e.ID); state == 2 && seen[e.ID] == 0 {
			seen[e.ID]++
			out = append(out, api.Entry{Key: by.Key, ID: e.ID})
		}
	}
	slices.SortFunc(out, func(a, b api.Entry) int {
		return cmp.Or(cmp.Compare(a.Key, b.Key), cmp.Compare(a.ID, b.ID))
	})
	return out
}

func plainLife(l []api.Event, id int) []int {
	var out []int
	for _, e := range l {
		if e.ID == id && !slices.Contains([]int{api.ELook, api.ETick, api.EClose}, e.Kind) {
			out = append(out, e.Kind)
		}
	}
	return out
}

func plainClaims(l []api.Event) []api.Entry {
	var out []api.Entry
	for _, e := range slices.DeleteFunc(slices.Clone(l), func(e api.Event) bool { return e.Kind != api.EClaim }) {
		out = append(out, api.Entry{Key: e.Key, ID: e.ID})
	}
	return out
}

func plainText(l []api.Event) string {
	s := ""
	for _, e := range l {
		s += fmt.Sprintf("%d %d %d %d %d %d\n", e.Kind, e.T, e.ID, e.Key, e.Ticket, e.Now)
	}
	return s
}

// alike holds all calls of a row against the chapter's sentences.
func alike(t *testing.T, l []api.Event) {
	t.Helper()
	if got, want := hist.Ok(one, l), plainOk(l); got != want {
		t.Fatalf("Ok = %d, want %d, of\n%s", got, want, plainText(l))
	}
	for _, n := range []int{-1, 0, len(l) / 3, len(l) - 1, len(l), len(l) + 1} {
		if got, want := fmt.Sprint(hist.Ready(l, n)), fmt.Sprint(plainReady(l, n)); got != want {
			t.Fatalf("Ready of %d = %s, want %s, of\n%s", n, got, want, plainText(l))
		}
	}
	for id := -1; id < 5; id++ {
		if got, want := fmt.Sprint(hist.Life(l, id)), fmt.Sprint(plainLife(l, id)); got != want {
			t.Fatalf("Life of %d = %s, want %s, of\n%s", id, got, want, plainText(l))
		}
	}
	if got, want := fmt.Sprint(hist.Claims(l)), fmt.Sprint(plainClaims(l)); got != want {
		t.Fatalf("Claims = %s, want %s, of\n%s", got, want, plainText(l))
	}
	if got, want := hist.Text(l), plainText(l); got != want {
		t.Fatalf("Text = %q, want %q", got, want)
	}
}

// nexts are events of all kinds and some that are none, of few IDs and keys, about a ticket and a tick.
func nexts(ticket, now uint64) []api.Event {
	var l []api.Event
	for kind := -1; kind <= 11; kind++ {
		for id := range 4 {
			for bits := range uint64(8) {
				l = append(l, api.Event{Kind: kind, ID: id, Key: 3 * (bits & 1), Ticket: ticket + bits>>1&1, Now: now + bits>>2})
			}
		}
	}
	return l
}

// 21.1: behind each row of four events that may be (of two IDs and one key), any event is told as the clauses say.
func TestEveryShortRow(t *testing.T) {
	rows := [][]api.Event{nil}
	for depth := range 5 {
		var longer [][]api.Event
		for _, l := range rows {
			ticket := uint64(len(plainClaims(l)))
			for _, e := range nexts(ticket, 0) {
				want := plainOk(append(l[:len(l):len(l)], e))
				if got := hist.Ok(one, append(l[:len(l):len(l)], e)); got != want {
					t.Fatalf("Ok = %d, want %d, of %+v behind\n%s", got, want, e, plainText(l))
				}
				if want == api.OK && depth < 4 && e.Key == 3 && e.Ticket == ticket && e.Now == 0 && e.ID%3 != 0 {
					longer = append(longer, append(l[:len(l):len(l)], e))
				}
			}
		}
		rows = longer
	}
}

// source is a row of numbers that looks drawn.
type source uint64

func (s *source) word() uint64 {
	*s ^= *s << 13
	*s ^= *s >> 7
	*s ^= *s << 17
	return uint64(*s)
}

func (s *source) draw(n int) int {
	return int(s.word() >> 11 % uint64(n))
}

// wild is an event of drawn small numbers.
func (s *source) wild() api.Event {
	return api.Event{Kind: s.draw(14) - 1, T: s.draw(3) - 1, ID: s.draw(6) - 1, Key: uint64(s.draw(3)), Ticket: uint64(s.draw(3)), Now: uint64(s.draw(3))}
}

// 21.2, 21.3: rows of any numbers are answered as the chapter says.
func TestWildRows(t *testing.T) {
	s := source(2021)
	for range 3000 {
		var l []api.Event
		for range s.draw(40) {
			l = append(l, s.wild())
		}
		alike(t, l)
	}
}

// grow is a drawn row that may be: of some drawn events each time one that may come.
func (s *source) grow(n int) []api.Event {
	var l []api.Event
	made, claims, now := 0, 0, uint64(0)
	for tries := 0; len(l) < n && tries < 40*n; tries++ {
		e := api.Event{Kind: 1 + s.draw(10), T: s.draw(3) - 1, ID: 1 + s.draw(made+1), Ticket: uint64(claims), Now: now + uint64(s.draw(9)/8)}
		if state, by := stand(l, e.ID); state == 2 && s.draw(5) > 0 {
			e.Key = by.Key
		} else {
			e.Key = uint64(s.draw(4))
		}
		if e.Kind == api.EClose && s.draw(30) > 0 || faulty(l, e) {
			continue
		}
		l = append(l, e)
		switch e.Kind {
		case api.EMake:
			made++
		case api.EClaim:
			claims++
		}
		if e.Kind != api.ELook {
			now = e.Now
		}
	}
	return l
}

// 21.1, 21.2: long rows that may be, and those that are hurt at one place: an event more, an event less, two in each other's place, another number.
func TestHurtRows(t *testing.T) {
	s, bad := source(777), 0
	for range 150 {
		l := s.grow(s.draw(80))
		hold(t, "Ok of a row that may be", plainOk(l), api.OK)
		alike(t, l)
		if len(l) < 2 {
			continue
		}
		for range 12 {
			hurt, at := slices.Clone(l), s.draw(len(l)-1)
			switch e := &hurt[at]; s.draw(8) {
			case 0:
				hurt = slices.Delete(hurt, at, at+1)
			case 1:
				hurt = slices.Insert(hurt, at, hurt[s.draw(len(l))])
			case 2:
				hurt[at], hurt[at+1] = hurt[at+1], hurt[at]
			case 3:
				e.Kind += s.draw(5) - 2
			case 4:
				e.ID += s.draw(3) - 1
			case 5:
				e.Key ^= 1 << s.draw(64)
			case 6:
				e.Ticket += uint64(s.draw(3) - 1)
			case 7:
				e.Now += uint64(s.draw(3) - 1)
			}
			alike(t, hurt)
			if plainOk(hurt) != api.OK {
				bad++
			}
		}
	}
	if bad < 500 {
		t.Errorf("%d rows may not be, too few to tell", bad)
	}
}

// 21.3: any bytes as events are answered, and as the chapter says.
func FuzzEvents(f *testing.F) {
	f.Add([]byte("what happened, again"))
	f.Add([]byte{1, 1, 0, 0, 2, 1, 5, 0, 3, 1, 5, 0, 4, 1, 0, 1, 9, 0, 0, 1})
	f.Fuzz(func(t *testing.T, b []byte) {
		var l []api.Event
		for ; len(b) >= 4 && len(l) < 100; b = b[4:] {
			l = append(l, api.Event{Kind: int(int8(b[0])), T: int(b[1]) << 40, ID: int(int8(b[1])), Key: uint64(b[2]), Ticket: uint64(b[3] & 15), Now: uint64(b[3] >> 4)})
		}
		alike(t, l)
	})
}
