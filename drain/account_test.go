package drain

import (
	"fmt"
	"slices"
	"testing"

	"verger/api"
	"verger/exec"
)

// whole is a machine's account that fits: tasks wait for others and for ticks, are ready at all places of the queue, claimed and over.
func whole(t *testing.T) account {
	t.Helper()
	m, fault := exec.New(api.Conf{Threads: 2, K: 1, Credits: 20})
	if fault != api.OK {
		t.Fatal(fault)
	}
	c := m.Core()
	for n := range 6 {
		c.Submit(n%2, n, []api.Op{{Kind: api.BNop}}, nil)
	}
	c.Submit(0, 2, nil, []int{3})
	for range 8 {
		m.Round(1)
	}
	c.Advance(0, 40)
	c.After(0, 2, nil, 7)
	c.Every(1, 2, nil, 9, 3)
	for n := range 5 {
		c.Submit(n%2, 2, nil, nil)
	}
	c.Cancel(10)
	a := account{conf: c.Conf(), state: c.State(), running: running(m), events: c.Events()}
	some := min(a.running, len(a.state.Slots), len(slices.Concat(a.state.Local...)), len(a.state.Shared), count(a.state.Tasks, api.SDone), count(a.state.Tasks, api.SCancelled))
	if some == 0 || len(a.state.Timers) < 2 || len(a.state.Timers) >= count(a.state.Tasks, api.SWaiting) {
		t.Fatalf("%+v has not all places", a)
	}
	if !a.fits() || Check(m) != api.OK {
		t.Fatalf("%+v does not fit", a)
	}
	return a
}

// in is the first task of that state.
func (a account) in(t *testing.T, state int) *api.Task {
	t.Helper()
	at := slices.IndexFunc(a.state.Tasks, func(x api.Task) bool { return x.State == state })
	if at < 0 {
		t.Fatalf("no task is of state %d", state)
	}
	return &a.state.Tasks[at]
}

// timed is the task of the first timer.
func (a account) timed() *api.Task {
	return &a.state.Tasks[a.state.Timers[0].ID-1]
}

// own is a thread whose own list has something.
func (a account) own() int {
	return slices.IndexFunc(a.state.Local, func(l []api.Entry) bool { return len(l) > 0 })
}

// 23.1: each clause of Check finds what is hurt at one place, wherever that is.
func TestCheckFindsWhatIsHurt(t *testing.T) {
	for name, hurt := range map[string]func(a *account){
		"a credit more is free":              func(a *account) { a.state.Free++ },
		"a credit less is free":              func(a *account) { a.state.Free-- },
		"a credit more is there":             func(a *account) { a.conf.Credits++ },
		"a waiting one is over":              func(a *account) { a.timed().State = api.SDone; a.state.Timers = a.state.Timers[1:] },
		"a ready one is over":                func(a *account) { a.in(t, api.SReady).State = api.SFailed },
		"a ready one waits":                  func(a *account) { a.in(t, api.SReady).State = api.SWaiting },
		"a ready one is claimed":             func(a *account) { a.in(t, api.SReady).State = api.SClaimed },
		"a waiting one is ready":             func(a *account) { a.in(t, api.SWaiting).State = api.SReady },
		"a claimed one is ready":             func(a *account) { a.in(t, api.SClaimed).State = api.SReady },
		"a claimed one is over":              func(a *account) { a.in(t, api.SClaimed).State = api.SDone; a.state.Free++ },
		"one that is over waits":             func(a *account) { a.in(t, api.SDone).State = api.SWaiting },
		"a ready one has another key":        func(a *account) { a.in(t, api.SReady).Key++ },
		"a slot is empty":                    func(a *account) { a.state.Slots = a.state.Slots[1:] },
		"a slot has another key":             func(a *account) { a.state.Slots[0].Key-- },
		"a slot has another task":            func(a *account) { a.state.Slots[0].ID = a.in(t, api.SClaimed).ID },
		"a slot has one that waits":          func(a *account) { a.state.Slots[0].ID = a.state.Timers[0].ID },
		"a slot has none":                    func(a *account) { a.state.Slots[0].ID = 0 },
		"a slot has a stranger":              func(a *account) { a.state.Slots = append(a.state.Slots, api.Entry{Key: 3, ID: 99}) },
		"a slot has one twice":               func(a *account) { a.state.Slots = append(a.state.Slots, a.state.Slots[0]) },
		"an own list is empty":               func(a *account) { a.state.Local[a.own()] = nil },
		"no own list is there":               func(a *account) { a.state.Local = nil },
		"an own list has another key":        func(a *account) { a.state.Local[a.own()][0].Key++ },
		"an own list has what is in hand":    func(a *account) { a.state.Local[0] = append(a.state.Local[0], a.state.Shared[0]) },
		"the shared list is empty":           func(a *account) { a.state.Shared = nil },
		"the shared list has another":        func(a *account) { a.state.Shared[0].ID++ },
		"the shared list has one twice":      func(a *account) { a.state.Shared = append(a.state.Shared, a.state.Shared[0]) },
		"two keys are exchanged":             func(a *account) { exchange(&a.state.Slots[0].Key, &a.state.Shared[0].Key) },
		"a timer is late":                    func(a *account) { a.state.Timers[0].Due++ },
		"a timer is early":                   func(a *account) { a.state.Timers[1].Due-- },
		"a timer is of none":                 func(a *account) { a.state.Timers[0].ID = 0 },
		"a timer is of what is unknown":      func(a *account) { a.state.Timers[1].ID = 99 },
		"a timer is of a ready one":          func(a *account) { a.state.Timers[0].ID = a.in(t, api.SReady).ID },
		"a timer is of a claimed one":        func(a *account) { a.state.Timers[0].ID = a.in(t, api.SClaimed).ID },
		"a timer is of one that is over":     func(a *account) { a.state.Timers[1].ID = a.in(t, api.SDone).ID },
		"a timer is of none, and of no tick": func(a *account) { a.state.Timers = append(a.state.Timers, api.Timer{}) },
		"a ready one has a timer at its due": func(a *account) {
			x := a.in(t, api.SReady)
			a.state.Timers = append(a.state.Timers, api.Timer{Due: x.Due, ID: x.ID})
		},
		"a waiting one has another due": func(a *account) { a.timed().Due = 1 },
		"too many run":                  func(a *account) { a.running = count(a.state.Tasks, api.SClaimed) + 1 },
		"an event is not there":         func(a *account) { a.events = a.events[1:] },
		"an event is there twice":       func(a *account) { a.events = append(a.events, a.events[0]) },
		"an event is of no kind":        func(a *account) { a.events[3].Kind = 0 },
		"a ticket is wrong":             func(a *account) { a.events[len(a.events)-1].Ticket++ },
		"no such conf may be":           func(a *account) { a.conf.Threads = 9 },
	} {
		a := whole(t)
		hurt(&a)
		if a.fits() {
			t.Errorf("%s: it fits", name)
		}
	}
}

func exchange(a, b *uint64) {
	*a, *b = *b, *a
	if *a == *b {
		*a++
	}
}

// 23.1: what Check does not ask for may be otherwise.
func TestCheckAsksNothingElse(t *testing.T) {
	for name, turn := range map[string]func(a *account){
		"fewer run than are claimed":  func(a *account) { a.running-- },
		"a waiting one has no timer":  func(a *account) { a.state.Timers = nil },
		"one stands at another place": func(a *account) { a.state.Slots, a.state.Shared = a.state.Shared, a.state.Slots },
		"places are out of order":     func(a *account) { slices.Reverse(a.state.Shared) },
		"tasks are out of order":      func(a *account) { slices.Reverse(a.state.Tasks) },
		"a waiting one has a key":     func(a *account) { a.timed().Key = 77 },
		"a ready one has a due":       func(a *account) { a.in(t, api.SReady).Due = 77 },
		"one that is over is another": func(a *account) { a.in(t, api.SDone).State = api.SCancelled },
	} {
		a := whole(t)
		turn(&a)
		if !a.fits() {
			t.Errorf("%s: it does not fit", name)
		}
	}
}

// 23.1, rule 3: what is left, and what is asked about it, does not hang on how the tasks stand; nothing of it is changed.
func TestAccountStays(t *testing.T) {
	a := whole(t)
	before := fmt.Sprintf("%+v", a)
	for range 20 {
		a.fits()
	}
	if got := fmt.Sprintf("%+v", a); got != before {
		t.Errorf("%s, was %s", got, before)
	}
	if left := leftOf(a.state.Tasks); len(left) != a.conf.Credits-a.state.Free {
		t.Errorf("%v are left", left)
	}
	if left := leftOf(nil); len(left) != 0 {
		t.Errorf("%v are left of none", left)
	}
}
