package core_test

import (
	"fmt"
	"math/big"
	"slices"
	"strings"
	"testing"

	"verger/api"
	"verger/core"
)

// face is what a core can be asked, so that a model can be asked the same.
type face interface {
	Conf() api.Conf
	Submit(t, prio int, body []api.Op, preds []int) (int, api.Errno)
	After(t, prio int, body []api.Op, delay uint64) (int, api.Errno)
	Every(t, prio int, body []api.Op, delay, period uint64) (int, api.Errno)
	Cancel(id int) api.Errno
	Advance(t int, n uint64) (int, api.Errno)
	Status(id int) int
	Body(id int) []api.Op
	Settle(t int) bool
	Look(t int, draw uint64) (api.Entry, bool)
	Claim(t int, e api.Entry) api.Errno
	Finish(t, id int, ok bool) api.Errno
	Shutdown() []int
	Drained() bool
	State() api.State
	Events() []api.Event
}

// chore is a task told plainly: what it waits for is asked of the tasks that it names, and its grid is gone along tick by tick.
type chore struct {
	prio, state         int
	ops                 []api.Op
	preds               []int
	timed               bool
	first, period       uint64
	jobDue, due, key    uint64
	runs, missed, ended uint64
}

// model does what the chapter says with plain lists, sentence by sentence. It has no count of credits: a credit is out for each task that is not over.
type model struct {
	conf        api.Conf
	now, ticket uint64
	closed      bool
	chores      []*chore
	slots       [][]api.Entry
	own         [][]api.Entry
	shared      []api.Entry
	gone        []int
	events      []api.Event
}

func newModel(c api.Conf) *model {
	return &model{conf: c, slots: make([][]api.Entry, c.Threads), own: make([][]api.Entry, c.Threads)}
}

func (m *model) Conf() api.Conf { return m.conf }

// sum is a and b, and no more than a tick can be.
func sum(a, b uint64) uint64 {
	n := new(big.Int).Add(new(big.Int).SetUint64(a), new(big.Int).SetUint64(b))
	if !n.IsUint64() {
		return last
	}
	return n.Uint64()
}

func before(a, b api.Entry) int {
	if a.Key < b.Key || a.Key == b.Key && a.ID < b.ID {
		return -1
	}
	return 1
}

func (m *model) find(id int) *chore {
	if id < 1 || id > len(m.chores) {
		return nil
	}
	return m.chores[id-1]
}

func (m *model) thread(t int) bool { return t >= 0 && t < m.conf.Threads }

func over(state int) bool {
	return state == api.SDone || state == api.SFailed || state == api.SCancelled
}

func (m *model) free() int {
	n := m.conf.Credits
	for _, x := range m.chores {
		if !over(x.state) {
			n--
		}
	}
	return n
}

func (m *model) tell(kind, t, id int, key uint64) {
	m.events = append(m.events, api.Event{Kind: kind, T: t, ID: id, Key: key, Ticket: m.ticket, Now: m.now})
}

// fits tells whether an op is one of those that the rows draw and that may be.
func fits(o api.Op) bool {
	return slices.Contains([]api.Op{{Kind: api.BNop}, {Kind: api.BSubmit, A: 3}, {Kind: api.BAfter, A: 7, B: 1000000}, {Kind: api.BPanic}}, o)
}

// wrong is what is answered of a task that may not be made, but for the credits.
func (m *model) wrong(t, prio int, ops []api.Op, args bool) api.Errno {
	switch {
	case m.closed:
		return api.ErrClosed
	case !m.thread(t) || prio < 0 || prio > 7 || len(ops) > 16:
		return api.ErrArg
	case slices.ContainsFunc(ops, func(o api.Op) bool { return !fits(o) }):
		return api.ErrArg
	case !args:
		return api.ErrArg
	case len(m.chores) >= 200:
		return api.ErrMany
	}
	return api.OK
}

// add makes a task that waits for nothing yet, and is not ready yet.
func (m *model) add(x chore, ops []api.Op) int {
	x.ops = slices.Clone(ops)
	x.state = api.SWaiting
	x.jobDue = x.first
	m.chores = append(m.chores, &x)
	m.tell(api.EMake, -1, len(m.chores), 0)
	return len(m.chores)
}

func (m *model) Submit(t, prio int, body []api.Op, preds []int) (int, api.Errno) {
	known, lost := true, false
	var left []int
	for _, pred := range preds {
		x := m.find(pred)
		known = known && x != nil
		lost = lost || x != nil && (x.state == api.SFailed || x.state == api.SCancelled)
		if x != nil && x.state != api.SDone {
			left = append(left, pred)
		}
	}
	if e := m.wrong(t, prio, body, known); e != api.OK {
		return 0, e
	}
	if lost {
		id := m.add(chore{prio: prio}, body)
		m.chores[id-1].state = api.SCancelled
		m.tell(api.ECancel, -1, id, 0)
		return id, api.OK
	}
	if m.free() == 0 {
		return 0, api.ErrFull
	}
	id := m.add(chore{prio: prio, preds: left}, body)
	if len(left) == 0 {
		m.release(t, id)
	}
	return id, api.OK
}

func (m *model) After(t, prio int, body []api.Op, delay uint64) (int, api.Errno) {
	if e := m.wrong(t, prio, body, true); e != api.OK {
		return 0, e
	}
	if m.free() == 0 {
		return 0, api.ErrFull
	}
	if delay == 0 {
		id := m.add(chore{prio: prio}, body)
		m.release(t, id)
		return id, api.OK
	}
	return m.add(chore{prio: prio, timed: true, due: sum(m.now, delay)}, body), api.OK
}

func (m *model) Every(t, prio int, body []api.Op, delay, period uint64) (int, api.Errno) {
	if e := m.wrong(t, prio, body, period > 0); e != api.OK {
		return 0, e
	}
	if m.free() == 0 {
		return 0, api.ErrFull
	}
	first := sum(m.now, delay)
	id := m.add(chore{prio: prio, timed: delay > 0, due: first, first: first, period: period}, body)
	if delay == 0 {
		m.release(t, id)
	}
	return id, api.OK
}

func (m *model) release(t, id int) {
	x := m.chores[id-1]
	x.state, x.timed, x.key = api.SReady, false, m.ticket
	for range 1<<x.prio - 1 {
		x.key++
	}
	m.Settle(t)
	m.slots[t] = []api.Entry{{Key: x.key, ID: id}}
	m.tell(api.ERelease, t, id, x.key)
}

// unqueue takes an id out of whatever list has it.
func (m *model) unqueue(id int) {
	is := func(e api.Entry) bool { return e.ID == id }
	for t := range m.slots {
		m.slots[t] = slices.DeleteFunc(m.slots[t], is)
		m.own[t] = slices.DeleteFunc(m.own[t], is)
	}
	m.shared = slices.DeleteFunc(m.shared, is)
}

// behind is all that wait for id, by way of others too, rising: an id waits only for lesser ones.
func (m *model) behind(id int) []int {
	with := []int{id}
	for next := id + 1; next <= len(m.chores); next++ {
		x := m.chores[next-1]
		if x.state == api.SWaiting && slices.ContainsFunc(x.preds, func(p int) bool { return slices.Contains(with, p) }) {
			with = append(with, next)
		}
	}
	return with[1:]
}

func (m *model) cancelOne(id int) {
	x := m.chores[id-1]
	x.state, x.timed = api.SCancelled, false
	m.unqueue(id)
	m.tell(api.ECancel, -1, id, 0)
}

func (m *model) cancelWith(id int) []int {
	all := append([]int{id}, m.behind(id)...)
	for _, each := range all {
		m.cancelOne(each)
	}
	return all
}

func (m *model) Cancel(id int) api.Errno {
	x := m.find(id)
	switch {
	case x == nil:
		return api.ErrArg
	case x.state != api.SWaiting && x.state != api.SReady:
		return api.ErrLate
	}
	m.cancelWith(id)
	return api.OK
}

func (m *model) timers() []api.Timer {
	var all []api.Timer
	for i, x := range m.chores {
		if x.timed {
			all = append(all, api.Timer{Due: x.due, ID: i + 1})
		}
	}
	slices.SortStableFunc(all, func(a, b api.Timer) int {
		return before(api.Entry{Key: a.Due, ID: a.ID}, api.Entry{Key: b.Due, ID: b.ID})
	})
	return all
}

func (m *model) Advance(t int, n uint64) (int, api.Errno) {
	if !m.thread(t) {
		return 0, api.ErrArg
	}
	m.now = sum(m.now, n)
	m.tell(api.ETick, t, 0, 0)
	count := 0
	for _, timer := range m.timers() {
		if timer.Due <= m.now {
			m.release(t, timer.ID)
			count++
		}
	}
	return count, api.OK
}

func (m *model) Status(id int) int {
	if x := m.find(id); x != nil {
		return x.state
	}
	return 0
}

func (m *model) Body(id int) []api.Op {
	if x := m.find(id); x != nil {
		return x.ops
	}
	return nil
}

func (m *model) Settle(t int) bool {
	if !m.thread(t) || len(m.slots[t]) == 0 {
		return false
	}
	m.own[t] = append(m.own[t], m.slots[t]...)
	m.slots[t] = nil
	if len(m.own[t]) > m.conf.K {
		m.shared = append(m.shared, m.own[t]...)
		m.own[t] = nil
	}
	slices.SortFunc(m.own[t], before)
	slices.SortFunc(m.shared, before)
	return true
}

// all is what the queue has, in order.
func (m *model) all() []api.Entry {
	l := slices.Concat(slices.Concat(m.slots...), slices.Concat(m.own...), m.shared)
	slices.SortFunc(l, before)
	return l
}

// close is what t finds in a queue that is not empty.
func (m *model) close(t int, draw uint64) api.Entry {
	var found []api.Entry
	if len(m.own[t]) > 0 {
		found = append(found, m.own[t][0])
	}
	if n := uint64(min(len(m.shared), m.conf.K+1)); n > 0 {
		found = append(found, m.shared[draw%n])
	}
	for i := 1; len(found) == 0 && i <= m.conf.Threads; i++ {
		if own := m.own[(t+i)%m.conf.Threads]; len(own) > 0 {
			found = append(found, own[0])
		}
	}
	if len(found) == 0 {
		found = slices.Concat(m.slots...)
	}
	return slices.MinFunc(found, before)
}

func (m *model) Look(t int, draw uint64) (api.Entry, bool) {
	all := m.all()
	if !m.thread(t) || len(all) == 0 {
		return api.Entry{}, false
	}
	e := all[0]
	if e.Key > m.ticket {
		e = m.close(t, draw)
	}
	m.tell(api.ELook, t, e.ID, e.Key)
	return e, true
}

func (m *model) Claim(t int, e api.Entry) api.Errno {
	x := m.find(e.ID)
	switch {
	case !m.thread(t) || x == nil:
		return api.ErrArg
	case x.state != api.SReady || x.key != e.Key:
		return api.ErrLate
	}
	x.state = api.SClaimed
	m.unqueue(e.ID)
	m.tell(api.EClaim, t, e.ID, e.Key)
	m.ticket++
	return api.OK
}

// next goes along the grid from the tick that was run; those on the way that are not above now are missed. It tells whether there is a next one.
func (m *model) next(x *chore) bool {
	x.runs++
	for at := x.jobDue; at <= last-x.period; {
		at += x.period
		if at > m.now {
			x.jobDue = at
			return true
		}
		x.missed++
	}
	return false
}

func (m *model) Finish(t, id int, ok bool) api.Errno {
	x := m.find(id)
	switch {
	case !m.thread(t) || x == nil:
		return api.ErrArg
	case x.state != api.SClaimed:
		return api.ErrState
	}
	again := x.period > 0 && m.next(x)
	if ok && again && !m.closed {
		x.state, x.timed, x.due = api.SWaiting, true, x.jobDue
		m.tell(api.EAgain, t, id, 0)
		return api.OK
	}
	x.ended++
	if !ok {
		x.state = api.SFailed
		m.tell(api.EFail, t, id, 0)
		for _, each := range m.behind(id) {
			m.cancelOne(each)
		}
		return api.OK
	}
	x.state = api.SDone
	m.tell(api.EDone, t, id, 0)
	for next, y := range m.chores {
		if y.state == api.SWaiting && slices.Contains(y.preds, id) && m.allDone(y.preds) {
			m.release(t, next+1)
		}
	}
	return api.OK
}

func (m *model) allDone(ids []int) bool {
	return !slices.ContainsFunc(ids, func(id int) bool { return m.Status(id) != api.SDone })
}

func (m *model) Shutdown() []int {
	if m.closed {
		return m.gone
	}
	m.closed = true
	m.tell(api.EClose, -1, 0, 0)
	for id := 1; id <= len(m.chores); id++ {
		if m.chores[id-1].timed {
			m.gone = append(m.gone, m.cancelWith(id)...)
		}
	}
	slices.Sort(m.gone)
	return m.gone
}

func (m *model) Drained() bool {
	return m.closed && m.free() == m.conf.Credits
}

func (m *model) State() api.State {
	s := api.State{
		Now: m.now, Ticket: m.ticket, Closed: m.closed, Free: m.free(),
		Slots: slices.Concat(m.slots...), Local: m.own, Shared: m.shared, Timers: m.timers(),
	}
	for i, x := range m.chores {
		task := api.Task{ID: i + 1, Prio: x.prio, State: x.state, Due: x.due, Key: x.key, Runs: x.runs, Missed: x.missed}
		if x.period == 0 {
			task.Runs = x.ended
		}
		s.Tasks = append(s.Tasks, task)
	}
	return s
}

func (m *model) Events() []api.Event { return m.events }

// Kinds of calls of a row.
const (
	doSubmit = iota
	doAfter
	doEvery
	doCancel
	doAdvance
	doSettle
	doLook
	doClaim
	doClaimNow
	doFinish
	doShutdown
	doKinds
)

// call is one call; what a kind does not need is left 0.
type call struct {
	kind, t, prio, id int
	n, m              uint64
	ops               []api.Op
	preds             []int
	ok                bool
}

// play does a call and tells all that it answers. doClaimNow claims an id by the Key that it has, and doClaim by n.
func play(f face, x call) string {
	switch x.kind {
	case doSubmit:
		return fmt.Sprint(f.Submit(x.t, x.prio, x.ops, x.preds))
	case doAfter:
		return fmt.Sprint(f.After(x.t, x.prio, x.ops, x.n))
	case doEvery:
		return fmt.Sprint(f.Every(x.t, x.prio, x.ops, x.n, x.m))
	case doCancel:
		return fmt.Sprint(f.Cancel(x.id))
	case doAdvance:
		return fmt.Sprint(f.Advance(x.t, x.n))
	case doSettle:
		return fmt.Sprint(f.Settle(x.t))
	case doLook:
		return fmt.Sprint(f.Look(x.t, x.n))
	case doClaim:
		return fmt.Sprint(f.Claim(x.t, api.Entry{Key: x.n, ID: x.id}))
	case doClaimNow:
		return fmt.Sprint(f.Claim(x.t, api.Entry{Key: keyOf(f, x.id), ID: x.id}))
	case doFinish:
		return fmt.Sprint(f.Finish(x.t, x.id, x.ok))
	}
	return fmt.Sprint(f.Shutdown())
}

func keyOf(f face, id int) uint64 {
	tasks := f.State().Tasks
	if id < 1 || id > len(tasks) {
		return 0
	}
	return tasks[id-1].Key
}

// picture is all that can be asked of a face and changes nothing.
func picture(f face) string {
	s := f.State()
	var b strings.Builder
	fmt.Fprintf(&b, "%v %v\n", f.Conf(), s)
	for id := -1; id <= len(s.Tasks)+1; id++ {
		fmt.Fprintf(&b, "%d:%d%v ", id, f.Status(id), f.Body(id))
	}
	fmt.Fprintf(&b, "\n%t\n%v", f.Drained(), f.Events())
	return b.String()
}

// alike holds a core against its model.
func alike(t *testing.T, c *core.Core, m *model, row []call) {
	t.Helper()
	if got, want := picture(c), picture(m); got != want {
		t.Fatalf("behind %+v\n%v\nwant\n%v", row, got, want)
	}
}

// run plays a row on both; all is held against each other at the end, and each answer on the way.
func run(t *testing.T, conf api.Conf, row []call) {
	t.Helper()
	c, m := made(t, conf), newModel(conf)
	for i, x := range row {
		if got, want := play(c, x), play(m, x); got != want {
			t.Fatalf("%+v: %s, want %s", row[:i+1], got, want)
		}
	}
	alike(t, c, m, row)
}

// rows goes through all rows of so many calls behind a beginning.
func rows(begin, calls []call, depth int, each func(row []call)) {
	if depth == 0 {
		each(begin)
		return
	}
	for _, x := range calls {
		rows(append(slices.Clip(begin), x), calls, depth-1, each)
	}
}

// W1, 18.1 to 18.5: every row of four of these calls, from the beginning on.
func TestEveryShortRow(t *testing.T) {
	calls := []call{
		{kind: doSubmit, prio: 1},
		{kind: doSubmit, t: 1, prio: 0, preds: []int{1}},
		{kind: doSubmit, prio: 2, preds: []int{2, 1}},
		{kind: doAfter, t: 1, n: 2},
		{kind: doEvery, prio: 1, n: 0, m: 2},
		{kind: doCancel, id: 1},
		{kind: doAdvance, t: 1, n: 3},
		{kind: doLook, n: 1},
		{kind: doClaimNow, id: 1},
		{kind: doFinish, id: 1, ok: true},
		{kind: doFinish, t: 1, id: 1},
		{kind: doShutdown},
	}
	rows(nil, calls, 4, func(row []call) {
		run(t, api.Conf{Threads: 2, K: 0, Credits: 2}, row)
	})
}

// W1, 18.2 to 18.5: every row of four of these calls, behind tasks that wait for each other, for a tick, and to be claimed.
func TestEveryRowBehindTasks(t *testing.T) {
	begin := []call{
		{kind: doSubmit, prio: 2},
		{kind: doEvery, prio: 1, n: 0, m: 2},
		{kind: doSubmit, t: 1, preds: []int{1}},
		{kind: doAfter, t: 1, n: 3},
		{kind: doSubmit, preds: []int{3, 4, 4, 1}},
		{kind: doSubmit, preds: []int{2}},
	}
	calls := []call{
		{kind: doCancel, id: 1},
		{kind: doCancel, id: 4},
		{kind: doAdvance, n: 3},
		{kind: doSettle},
		{kind: doLook, n: 1},
		{kind: doClaimNow, id: 1},
		{kind: doClaimNow, t: 1, id: 2},
		{kind: doFinish, id: 1, ok: true},
		{kind: doFinish, id: 1},
		{kind: doFinish, t: 1, id: 2, ok: true},
		{kind: doFinish, id: 2},
		{kind: doShutdown},
	}
	rows(begin, calls, 4, func(row []call) {
		run(t, api.Conf{Threads: 2, K: 1, Credits: 6}, row)
	})
}

// source is a row of numbers that looks drawn.
type source uint64

func (s *source) draw(n int) int {
	*s ^= *s << 13
	*s ^= *s >> 7
	*s ^= *s << 17
	return int(uint64(*s) >> 11 % uint64(n))
}

var someOps = [][]api.Op{nil, nil, {}, {{Kind: api.BNop}}, {{Kind: api.BSubmit, A: 3}, {Kind: api.BPanic}}, {{Kind: api.BAfter, A: 7, B: 1000000}}, {{}}, make([]api.Op, 17)}

// drawn is a call of a row; one in some is wrong.
func drawn(s *source, f face) call {
	conf, tasks := f.Conf(), f.State().Tasks
	x := call{
		kind: s.draw(doKinds), t: s.draw(conf.Threads), prio: s.draw(8),
		id: 1 + s.draw(len(tasks)+1), n: uint64(s.draw(9)), m: uint64(s.draw(4)),
		ok: s.draw(4) > 0,
	}
	if s.draw(3) > 0 {
		x.id = alive(s, tasks, x.id)
	}
	for range s.draw(4) {
		x.preds = append(x.preds, alive(s, tasks, 1+s.draw(len(tasks)+1)))
	}
	x.ops = someOps[s.draw(6)]
	switch s.draw(40) {
	case 0:
		x.t = []int{-1, conf.Threads}[s.draw(2)]
	case 1:
		x.prio = []int{-1, 8}[s.draw(2)]
	case 2:
		x.ops = someOps[s.draw(len(someOps))]
	case 3:
		x.id = -s.draw(3)
		x.preds = append(x.preds, x.id)
	case 4:
		x.kind = doClaimNow
	}
	if x.kind == doShutdown && s.draw(12) > 0 {
		x.kind = doLook
	}
	return x
}

// alive is a task that is not over, if one is found in a few draws.
func alive(s *source, tasks []api.Task, id int) int {
	for i := 0; i < 6 && len(tasks) > 0; i++ {
		if x := tasks[s.draw(len(tasks))]; !over(x.State) {
			return x.ID
		}
	}
	return id
}

// W1, 18.1 to 18.6: long rows of all calls, right and wrong ones.
func TestDrawnRows(t *testing.T) {
	s := source(88172645463325252)
	for range 60 {
		conf := api.Conf{Threads: 1 + s.draw(4), K: s.draw(4), Credits: 1 + s.draw(20)}
		c, m := made(t, conf), newModel(conf)
		for i := range 300 {
			x := drawn(&s, m)
			if got, want := play(c, x), play(m, x); got != want {
				t.Fatalf("%+v: %s, want %s\n%s", x, got, want, picture(m))
			}
			if i%10 == 0 {
				alike(t, c, m, []call{x})
			}
		}
		alike(t, c, m, nil)
	}
}

// W1, W11, 18.6: any bytes as a row of calls are answered, and as the model answers them.
func FuzzRows(f *testing.F) {
	f.Add([]byte{1, 2, 3, 4, 5, 6, 7, 8, 9})
	f.Add([]byte("let in by their urgency"))
	f.Fuzz(func(t *testing.T, b []byte) {
		s := source(1)
		conf := api.Conf{Threads: 2, K: 1, Credits: 5}
		c, m := made(t, conf), newModel(conf)
		for _, x := range b[:min(len(b), 200)] {
			s ^= source(x) << 20
			y := drawn(&s, m)
			y.kind = int(x) % doKinds
			if got, want := play(c, y), play(m, y); got != want {
				t.Fatalf("%+v: %s, want %s", y, got, want)
			}
		}
		alike(t, c, m, nil)
	})
}
