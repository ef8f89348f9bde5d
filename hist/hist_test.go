package hist_test

import (
	"fmt"
	"math"
	"slices"
	"testing"

	"verger/api"
	"verger/hist"
)

const most = math.MaxUint64

// one is a conf that may be.
var one = api.Conf{Threads: 1, K: 0, Credits: 1}

// mark is what stands in spare room; no list of a test has it.
var mark = api.Event{Kind: 77, T: 77, ID: 77, Key: 77, Ticket: 77, Now: 77}

// tale is a row of all kinds of events that may be: 1 comes again and is done, 2 is cancelled as it is ready, 3 fails, 4 is cancelled as it waits.
func tale() []api.Event {
	return []api.Event{
		0:  {Kind: api.EMake, T: -1, ID: 1},
		1:  {Kind: api.EMake, T: -1, ID: 2},
		2:  {Kind: api.ERelease, T: 1, ID: 2, Key: 3},
		3:  {Kind: api.ETick, T: 0, Now: 5},
		4:  {Kind: api.ERelease, T: 0, ID: 1, Key: 7, Now: 5},
		5:  {Kind: api.ELook, T: 1, ID: 1, Key: 7, Now: 5},
		6:  {Kind: api.EClaim, T: 1, ID: 1, Key: 7, Now: 5},
		7:  {Kind: api.EMake, T: -1, ID: 3, Ticket: 1, Now: 5},
		8:  {Kind: api.ERelease, T: 1, ID: 3, Key: 1, Ticket: 1, Now: 5},
		9:  {Kind: api.EAgain, T: 1, ID: 1, Ticket: 1, Now: 5},
		10: {Kind: api.EClaim, T: 0, ID: 3, Key: 1, Ticket: 1, Now: 5},
		11: {Kind: api.ETick, T: 1, Ticket: 2, Now: 9},
		12: {Kind: api.ERelease, T: 1, ID: 1, Key: 2, Ticket: 2, Now: 9},
		13: {Kind: api.ECancel, T: -1, ID: 2, Ticket: 2, Now: 9},
		14: {Kind: api.EFail, T: 0, ID: 3, Ticket: 2, Now: 9},
		15: {Kind: api.EClaim, T: 1, ID: 1, Key: 2, Ticket: 2, Now: 9},
		16: {Kind: api.EMake, T: -1, ID: 4, Ticket: 3, Now: 9},
		17: {Kind: api.EClose, T: -1, Ticket: 3, Now: 9},
		18: {Kind: api.ECancel, T: -1, ID: 4, Ticket: 3, Now: 9},
		19: {Kind: api.EDone, T: 1, ID: 1, Ticket: 3, Now: 9},
		20: {Kind: api.ETick, T: 1, Ticket: 3, Now: 9},
		21: {Kind: api.ELook, T: 1, ID: 4, Key: 5, Ticket: 3, Now: 9},
	}
}

func hold(t *testing.T, what string, got, want any) {
	t.Helper()
	if g, w := fmt.Sprint(got), fmt.Sprint(want); g != w {
		t.Errorf("%s = %s, want %s", what, g, w)
	}
}

// with is the tale as far as one event, and in that one's place another.
func with(at int, e api.Event) []api.Event {
	return append(tale()[:at:at], e)
}

// 21.1: a row of all kinds may be, and so may each beginning of it.
func TestTaleMayBe(t *testing.T) {
	for n := range len(tale()) + 1 {
		hold(t, fmt.Sprintf("Ok of %d", n), hist.Ok(one, tale()[:n]), api.OK)
	}
	hold(t, "Ok of nil", hist.Ok(one, nil), api.OK)
	hold(t, "Ok of an empty list", hist.Ok(one, []api.Event{}), api.OK)
}

// 21.1: a conf that may not be is ErrArg, whatever the events are.
func TestConfMayNotBe(t *testing.T) {
	bad := []api.Event{{}}
	for _, c := range []api.Conf{
		{Threads: 1, Credits: 1}, {Threads: 8, K: 16, Credits: 64}, {Threads: 1, K: 16, Credits: 64}, {Threads: 8, K: 0, Credits: 1},
	} {
		hold(t, fmt.Sprintf("Ok of %+v", c), hist.Ok(c, tale()), api.OK)
		hold(t, fmt.Sprintf("Ok of %+v and what may not be", c), hist.Ok(c, bad), api.ErrForm)
	}
	for _, n := range []int{-1, 0, 9, 17, 65, 201, 1 << 32, 1<<32 + 1, math.MaxInt, math.MinInt} {
		var wrong []api.Conf
		if n != 0 {
			wrong = append(wrong, api.Conf{Threads: n, K: 1, Credits: 1})
		}
		if n < 0 || n > 16 {
			wrong = append(wrong, api.Conf{Threads: 1, K: n, Credits: 1})
		}
		if n < 1 || n > 64 {
			wrong = append(wrong, api.Conf{Threads: 1, K: 1, Credits: n})
		}
		for _, c := range append(wrong, api.Conf{}, api.Conf{Credits: 1}, api.Conf{Threads: 1}) {
			for _, l := range [][]api.Event{nil, tale(), bad} {
				hold(t, fmt.Sprintf("Ok of %+v", c), hist.Ok(c, l), api.ErrArg)
			}
		}
	}
}

// 21.1: an EMake's ID is one more than the last one's, from 1 to 200.
func TestMadeOneByOne(t *testing.T) {
	var l []api.Event
	for id := range 200 {
		for _, wrong := range []int{id, id - 1, id + 2, -id - 1, 0, 201, math.MinInt, math.MaxInt} {
			if wrong != id+1 {
				hold(t, fmt.Sprintf("Ok of an EMake of %d behind %d", wrong, id), hist.Ok(one, append(l, api.Event{Kind: api.EMake, ID: wrong})), api.ErrForm)
			}
		}
		l = append(l, api.Event{Kind: api.EMake, ID: id + 1})
		hold(t, "Ok", hist.Ok(one, l), api.OK)
	}
	for _, id := range []int{199, 200, 201, 202, 0, 1} {
		hold(t, fmt.Sprintf("Ok of an EMake of %d behind 200", id), hist.Ok(one, append(l, api.Event{Kind: api.EMake, ID: id})), api.ErrForm)
	}
}

// 21.1: another one's ID was made; that of an ETick or EClose may be any.
func TestIDsWereMade(t *testing.T) {
	for _, id := range []int{0, -1, 5, 200, 201, math.MinInt, math.MaxInt, 1<<32 + 1} {
		for kind := api.ERelease; kind <= api.ELook; kind++ {
			want := api.ErrForm
			if kind == api.ETick || kind == api.EClose {
				want = api.OK
			}
			for _, key := range []uint64{0, 2} {
				e := api.Event{Kind: kind, ID: id, Key: key, Ticket: 3, Now: 9}
				hold(t, fmt.Sprintf("Ok of %+v", e), hist.Ok(one, with(17, e)), want)
			}
		}
	}
	hold(t, "Ok of an EClaim of what was not made", hist.Ok(one, []api.Event{{Kind: api.EClaim, ID: 1}}), api.ErrForm)
	hold(t, "Ok of an ERelease ahead of its EMake", hist.Ok(one, []api.Event{{Kind: api.ERelease, ID: 1}, {Kind: api.EMake, ID: 1}}), api.ErrForm)
	for _, id := range []int{1, 2, 3, 4} {
		e := api.Event{Kind: api.EClose, ID: id, Ticket: 3, Now: 9}
		hold(t, "Ok of a close of an ID that is a task's", hist.Ok(one, append(with(17, e), tale()[18:]...)), api.OK)
		e.Kind = api.ETick
		hold(t, "Ok of a tick of an ID that is a task's", hist.Ok(one, append(with(17, e), tale()[18:]...)), api.OK)
	}
}

// 21.1: there are ten kinds.
func TestKinds(t *testing.T) {
	for _, kind := range []int{0, -1, 11, 12, 77, 1 << 32, 1<<32 + 2, math.MaxInt, math.MinInt} {
		for at, e := range tale() {
			e.Kind = kind
			hold(t, fmt.Sprintf("Ok of kind %d at %d", kind, at), hist.Ok(one, with(at, e)), api.ErrForm)
			hold(t, fmt.Sprintf("Ok of kind %d and more at %d", kind, at), hist.Ok(one, append(with(at, e), tale()[at:]...)), api.ErrForm)
		}
	}
}

// stands has, for some lengths of the tale, a task, how it stands there, and the key of its release.
var stands = []struct {
	n, id, state int
	key          uint64
}{
	{2, 1, api.SWaiting, 0}, {4, 2, api.SReady, 3}, {6, 1, api.SReady, 7}, {8, 1, api.SClaimed, 7}, {10, 1, api.SWaiting, 7},
	{11, 3, api.SClaimed, 1}, {13, 1, api.SReady, 2}, {14, 2, api.SCancelled, 3}, {15, 3, api.SFailed, 1}, {17, 4, api.SWaiting, 0},
	{19, 4, api.SCancelled, 0}, {19, 1, api.SClaimed, 2}, {20, 1, api.SDone, 2}, {22, 4, api.SCancelled, 0},
}

// may has for each kind the states of a task of which it may be.
var may = map[int][]int{
	api.ERelease: {api.SWaiting},
	api.EClaim:   {api.SReady},
	api.EDone:    {api.SClaimed},
	api.EFail:    {api.SClaimed},
	api.EAgain:   {api.SClaimed},
	api.ECancel:  {api.SWaiting, api.SReady},
	api.ELook:    {api.SWaiting, api.SReady, api.SClaimed, api.SDone, api.SFailed, api.SCancelled},
}

// 21.1: what may be of a task hangs on how it stands.
func TestTurns(t *testing.T) {
	for _, x := range stands {
		last := tale()[x.n-1]
		claims := uint64(len(hist.Claims(tale()[:x.n])))
		for kind, from := range may {
			want := api.ErrForm
			if slices.Contains(from, x.state) {
				want = api.OK
			}
			for _, thread := range []int{0, -1, 99} {
				e := api.Event{Kind: kind, T: thread, ID: x.id, Key: x.key, Ticket: claims, Now: last.Now}
				hold(t, fmt.Sprintf("Ok of %+v behind %d", e, x.n), hist.Ok(one, with(x.n, e)), want)
			}
		}
	}
}

// 21.1: an EClaim has the Key of its ERelease, that of the last one; no other kind is asked for its Key.
func TestKeys(t *testing.T) {
	for _, key := range []uint64{0, 1, 3, 6, 8, 1<<32 + 7, 1<<63 + 7, most} {
		e := tale()[6]
		e.Key = key
		hold(t, fmt.Sprintf("Ok of a claim by %d of 7:1", key), hist.Ok(one, with(6, e)), api.ErrForm)
	}
	e := tale()[15]
	for _, key := range []uint64{7, 3, 1, 0} { // those of its release ahead, and of others
		e.Key = key
		hold(t, fmt.Sprintf("Ok of a claim by %d of 2:1", key), hist.Ok(one, with(15, e)), api.ErrForm)
	}
	for at, e := range tale() {
		if e.Kind != api.EClaim && e.Kind != api.ERelease {
			e.Key ^= 1 << 40
			hold(t, fmt.Sprintf("Ok of a key of %d", at), hist.Ok(one, append(with(at, e), tale()[at+1:]...)), api.OK)
		}
	}
}

// 21.1: a Ticket is how many EClaims there were. A look is asked for its ID alone.
func TestTickets(t *testing.T) {
	for at, e := range tale() {
		for _, ticket := range []uint64{0, 1, 2, 3, 4, 22, 1<<32 + e.Ticket, most} {
			want := api.ErrForm
			if ticket == e.Ticket || e.Kind == api.ELook {
				want = api.OK
			}
			wrong := e
			wrong.Ticket = ticket
			hold(t, fmt.Sprintf("Ok of ticket %d at %d", ticket, at), hist.Ok(one, append(with(at, wrong), tale()[at+1:]...)), want)
		}
	}
}

// falls tells whether the Now of any event is less than that of one ahead of it, looks left out.
func falls(l []api.Event) bool {
	var nows []uint64
	for _, e := range l {
		if e.Kind != api.ELook {
			nows = append(nows, e.Now)
		}
	}
	return !slices.IsSorted(nows)
}

// 21.1: no Now falls; it may stay, and rise at any event. A look is asked for its ID alone: its Now is not held against those ahead, nor those behind against it.
func TestNows(t *testing.T) {
	for at, e := range tale() {
		for _, now := range []uint64{0, 1, 4, 5, 6, 8, 9, 10, 1 << 32, 1 << 63, most} {
			e.Now = now
			whole := append(with(at, e), tale()[at+1:]...)
			for n := at + 1; n <= len(whole); n++ {
				want := api.OK
				if falls(whole[:n]) {
					want = api.ErrForm
				}
				hold(t, fmt.Sprintf("Ok of now %d at %d of %d", now, at, n), hist.Ok(one, whole[:n]), want)
			}
		}
	}
}

// 21.1: there is one EClose, and no EMake behind it; all else goes on.
func TestClose(t *testing.T) {
	e := api.Event{Kind: api.EClose, Ticket: 3, Now: 9}
	for n := 18; n <= 22; n++ {
		hold(t, fmt.Sprintf("Ok of a close behind %d", n), hist.Ok(one, with(n, e)), api.ErrForm)
		for id := range 7 {
			e := api.Event{Kind: api.EMake, ID: id, Ticket: 3, Now: 9}
			hold(t, fmt.Sprintf("Ok of an EMake of %d behind a close", id), hist.Ok(one, with(n, e)), api.ErrForm)
		}
	}
	behind := []api.Event{
		{Kind: api.EMake, ID: 1}, {Kind: api.EClose}, {Kind: api.ERelease, ID: 1, Key: 4}, {Kind: api.EClaim, ID: 1, Key: 4},
		{Kind: api.EAgain, ID: 1, Ticket: 1}, {Kind: api.ETick, Ticket: 1, Now: 2}, {Kind: api.ERelease, ID: 1, Key: 4, Ticket: 1, Now: 2},
		{Kind: api.ELook, ID: 1}, {Kind: api.EClaim, ID: 1, Key: 4, Ticket: 1, Now: 2}, {Kind: api.EFail, ID: 1, Ticket: 2, Now: 2},
	}
	hold(t, "Ok of what comes behind a close", hist.Ok(one, behind), api.OK)
	hold(t, "Ok of a close alone", hist.Ok(one, []api.Event{{Kind: api.EClose}}), api.OK)
}

// 21.1: the credits and threads of a conf are not held against the events.
func TestConfIsAskedForItself(t *testing.T) {
	var l []api.Event
	for id := range 100 {
		l = append(l, api.Event{Kind: api.EMake, ID: id + 1}, api.Event{Kind: api.ERelease, T: 7 + id, ID: id + 1})
	}
	hold(t, "Ok of a hundred at once", hist.Ok(one, l), api.OK)
}

// 21.2: Claims are Key and ID of each EClaim, in order, of rows that may not be, too.
func TestClaims(t *testing.T) {
	hold(t, "Claims", hist.Claims(tale()), "[{7 1} {1 3} {2 1}]")
	hold(t, "Claims of 15", hist.Claims(tale()[:15]), "[{7 1} {1 3}]")
	hold(t, "Claims of 6", hist.Claims(tale()[:6]), "[]")
	hold(t, "Claims of nil", hist.Claims(nil), "[]")
	wild := []api.Event{{Kind: api.EClaim, ID: -4, Key: most}, {Kind: 3 + 1<<32, ID: 1}, {Kind: api.EClaim, ID: -4, Key: most}, {Kind: api.ELook, ID: 1, Key: 1}, {Kind: api.EClaim}}
	hold(t, "Claims", hist.Claims(wild), "[{18446744073709551615 -4} {18446744073709551615 -4} {0 0}]")
}

// 21.2: Life are the Kinds of a task's events but ELook; an ETick's or EClose's ID counts for no task.
func TestLife(t *testing.T) {
	for id, want := range map[int]string{
		1: "[1 2 3 6 2 3 4]", 2: "[1 2 7]", 3: "[1 2 3 5]", 4: "[1 7]",
		0: "[]", 5: "[]", -1: "[]", 200: "[]", math.MaxInt: "[]", math.MinInt: "[]",
	} {
		hold(t, fmt.Sprintf("Life of %d", id), hist.Life(tale(), id), want)
		hold(t, fmt.Sprintf("Life of %d of nothing", id), hist.Life(nil, id), "[]")
	}
	hold(t, "Life of the first five", hist.Life(tale()[:5], 1), "[1 2]")
	wild := []api.Event{
		{Kind: api.ETick, ID: 3}, {Kind: api.EClose, ID: 3}, {Kind: api.ELook, ID: 3}, {Kind: api.EFail, ID: 3}, {Kind: api.EMake, ID: 3},
		{Kind: api.EMake, ID: -3}, {Kind: 12, ID: 3}, {Kind: api.EFail, ID: 3}, {Kind: -1, ID: 3}, {Kind: api.ECancel, ID: 3}, {Kind: api.EAgain, ID: 3},
	}
	hold(t, "Life of 3", hist.Life(wild, 3), "[5 1 12 5 -1 7 6]")
	hold(t, "Life of -3", hist.Life(wild, -3), "[1]")
	hold(t, "Life of 0", hist.Life(wild, 0), "[]")
}

// 21.2: Ready are those that are ready behind the first n events, in order of entries.
func TestReady(t *testing.T) {
	want := []string{
		0: "[]", 1: "[]", 2: "[]", 3: "[{3 2}]", 4: "[{3 2}]", 5: "[{3 2} {7 1}]", 6: "[{3 2} {7 1}]", 7: "[{3 2}]", 8: "[{3 2}]",
		9: "[{1 3} {3 2}]", 10: "[{1 3} {3 2}]", 11: "[{3 2}]", 12: "[{3 2}]", 13: "[{2 1} {3 2}]", 14: "[{2 1}]", 15: "[{2 1}]", 16: "[]", 22: "[]",
	}
	for n, w := range want {
		if w != "" {
			hold(t, fmt.Sprintf("Ready of %d", n), hist.Ready(tale(), n), w)
		}
	}
	for _, n := range []int{-1, -2, math.MinInt} {
		hold(t, fmt.Sprintf("Ready of %d", n), hist.Ready(tale(), n), "[]")
	}
	for _, n := range []int{13, 14, 99, 1 << 40, math.MaxInt} {
		hold(t, fmt.Sprintf("Ready of %d of 13", n), hist.Ready(tale()[:13], n), "[{2 1} {3 2}]")
	}
	hold(t, "Ready of nil", hist.Ready(nil, 3), "[]")
}

// 21.2: Ready tells entries by Key, and of one Key by ID, however many there are.
func TestReadyInOrder(t *testing.T) {
	var l []api.Event
	for i := range 200 {
		id := 1 + i*77%200
		l = append(l, api.Event{Kind: api.ERelease, ID: id, Key: uint64(id*id%7) << 61})
	}
	got := hist.Ready(l, 200)
	hold(t, "len of Ready", len(got), 200)
	for i := 1; i < len(got); i++ {
		if a, b := got[i-1], got[i]; a.Key > b.Key || a.Key == b.Key && a.ID >= b.ID {
			t.Errorf("%+v ahead of %+v", a, b)
		}
	}
}

// 21.2: of rows that may not be, too, a task is ready behind its last ERelease, and once.
func TestReadyOfWildRows(t *testing.T) {
	release := func(id int, key uint64) api.Event { return api.Event{Kind: api.ERelease, ID: id, Key: key} }
	for _, x := range []struct {
		l    []api.Event
		want string
	}{
		{[]api.Event{release(0, 0)}, "[{0 0}]"},
		{[]api.Event{release(0, 0), release(5, 0)}, "[{0 0} {0 5}]"},
		{[]api.Event{release(-4, most), release(math.MinInt, 0), release(math.MaxInt, 0)}, "[{0 -9223372036854775808} {0 9223372036854775807} {18446744073709551615 -4}]"},
		{[]api.Event{release(1, 4), release(1<<32+1, 4), release(1, 1<<32+4)}, "[{4 4294967297} {4294967300 1}]"},
		{[]api.Event{release(2, 9), release(2, 4)}, "[{4 2}]"},
		{[]api.Event{release(2, 4), release(2, 4)}, "[{4 2}]"},
		{[]api.Event{release(2, 4), {Kind: api.EClaim, ID: 2, Key: 5}}, "[]"},
		{[]api.Event{release(2, 4), {Kind: api.EClaim, ID: 4, Key: 2}}, "[{4 2}]"},
		{[]api.Event{release(2, 4), {Kind: api.EDone, ID: 2}}, "[]"},
		{[]api.Event{release(2, 4), {Kind: api.EFail, ID: 2}}, "[]"},
		{[]api.Event{release(2, 4), {Kind: api.EAgain, ID: 2}}, "[]"},
		{[]api.Event{release(2, 4), {Kind: api.ECancel, ID: 2}}, "[]"},
		{[]api.Event{release(2, 4), {Kind: api.ECancel, ID: 2}, release(2, 6)}, "[{6 2}]"},
		{[]api.Event{release(2, 4), {Kind: api.ETick, ID: 2}, {Kind: api.EClose, ID: 2}, {Kind: api.ELook, ID: 2, Key: 8}}, "[{4 2}]"},
		{[]api.Event{release(2, 4), {Kind: api.EMake, ID: 2}, {Kind: 0, ID: 2}, {Kind: 11, ID: 2}, {Kind: -2, ID: 2}}, "[{4 2}]"},
		{[]api.Event{{Kind: 2 + 1<<32, ID: 2}}, "[]"},
	} {
		hold(t, fmt.Sprintf("Ready of %+v", x.l), hist.Ready(x.l, len(x.l)), x.want)
	}
}

// 21.2: Text is a line an event, and each line is ended.
func TestText(t *testing.T) {
	hold(t, "Text", hist.Text(tale()[:5]), "1 -1 1 0 0 0\n1 -1 2 0 0 0\n2 1 2 3 0 0\n8 0 0 0 0 5\n2 0 1 7 0 5\n")
	hold(t, "Text of nil", hist.Text(nil), "")
	hold(t, "Text of an empty list", hist.Text([]api.Event{}), "")
	hold(t, "Text of nothing named", hist.Text([]api.Event{{}}), "0 0 0 0 0 0\n")
	hold(t, "Text of each field", hist.Text([]api.Event{{Kind: 1, T: 2, ID: 3, Key: 4, Ticket: 5, Now: 6}}), "1 2 3 4 5 6\n")
	wild := []api.Event{
		{Kind: math.MinInt, T: math.MaxInt, ID: math.MinInt, Key: most, Ticket: 1 << 63, Now: most - 1},
		{Kind: math.MaxInt, T: math.MinInt, ID: math.MaxInt, Key: 1 << 63, Ticket: most, Now: 10},
	}
	hold(t, "Text", hist.Text(wild), "-9223372036854775808 9223372036854775807 -9223372036854775808 18446744073709551615 9223372036854775808 18446744073709551614\n9223372036854775807 -9223372036854775808 9223372036854775807 9223372036854775808 18446744073709551615 10\n")
}

// W1, 21.3: what is handed in stays, and so does its spare room; what is answered is new memory.
func TestNothingIsShared(t *testing.T) {
	l := append(make([]api.Event, 0, 30), tale()...)
	for i := range l[len(l):cap(l)] {
		l[len(l):cap(l)][i] = mark
	}
	for range 2 {
		hist.Ok(one, l)
		hold(t, "Text", hist.Text(l[:1]), "1 -1 1 0 0 0\n")
		claims, ready := hist.Claims(l), hist.Ready(l, 13)
		hold(t, "Claims", claims, "[{7 1} {1 3} {2 1}]")
		hold(t, "Ready", ready, "[{2 1} {3 2}]")
		for _, out := range [][]api.Entry{claims[:cap(claims)], ready[:cap(ready)]} {
			for i := range out {
				out[i] = api.Entry{Key: 99, ID: 99}
			}
		}
		life := hist.Life(l, 2)
		hold(t, "Life", life, "[1 2 7]")
		for i := range life[:cap(life)] {
			life[:cap(life)][i] = 99
		}
	}
	hold(t, "what was handed in", l, fmt.Sprint(tale()))
	for _, e := range l[len(l):cap(l)] {
		hold(t, "the spare room", e, mark)
	}
}
