// Package word keeps a task's state and its version in one number, so that both change at once: whoever saw an older version can tell that the state was changed since.
package word

import "verger/api"

const (
	wordBits  = 64
	stateBits = 3
	stateMask = 1<<stateBits - 1
)

var names = [...]string{
	api.SFree:      "free",
	api.SWaiting:   "waiting",
	api.SReady:     "ready",
	api.SClaimed:   "claimed",
	api.SDone:      "done",
	api.SFailed:    "failed",
	api.SCancelled: "cancelled",
}

// Pack joins a state and a version; the shift alone leaves out what a version has beyond 61 bits.
func Pack(state int, version uint64) uint64 {
	return version<<stateBits | uint64(state)&stateMask
}

// State is the state of w, 7 too, which is none.
func State(w uint64) int {
	return int(w & stateMask)
}

// Version is the version of w.
func Version(w uint64) uint64 {
	return w >> stateBits
}

// Ok tells a word that has one of the seven states: three bits have room for an eighth.
func Ok(w uint64) bool {
	return State(w) <= api.SCancelled
}

// Next is the word behind w; a version that runs over begins again at 0, as Pack leaves its highest bits out.
func Next(w uint64, state int) uint64 {
	return Pack(state, Version(w)+1)
}

// Can tells whether a task may go from one state to another. The states are taken as they are, not by their lowest bits: 8 is no state, so it leads nowhere.
func Can(from, to int) bool {
	_, ok := steps()[[2]int{from, to}]
	return ok
}

func steps() map[[2]int]struct{} {
	return map[[2]int]struct{}{
		{api.SFree, api.SWaiting}:      {},
		{api.SFree, api.SReady}:        {},
		{api.SFree, api.SCancelled}:    {},
		{api.SWaiting, api.SReady}:     {},
		{api.SWaiting, api.SCancelled}: {},
		{api.SReady, api.SClaimed}:     {},
		{api.SReady, api.SCancelled}:   {},
		{api.SClaimed, api.SWaiting}:   {},
		{api.SClaimed, api.SDone}:      {},
		{api.SClaimed, api.SFailed}:    {},
	}
}

// Over tells the states that a task does not leave any more.
func Over(state int) bool {
	switch state {
	case api.SDone, api.SFailed, api.SCancelled:
		return true
	}
	return false
}

// Name is the state's name, empty for what is no state.
func Name(state int) string {
	if state < 0 || state >= len(names) {
		return ""
	}
	return names[state]
}

// Field is the n bits of w from bit at on. The shift takes at without its sign, as a shift by less than nothing would panic.
func Field(w uint64, at, n int) uint64 {
	return (w & mask(at, n)) >> uint(at)
}

// With is w with v's lowest bits as its n bits from bit at on; where there are no such bits the mask is empty, and w stays.
func With(w uint64, at, n int, v uint64) uint64 {
	m := mask(at, n)
	return w&^m | (v<<uint(at))&m
}

// mask has ones at the n bits from bit at on. A shift beyond bit 63 leaves 0, so an n that is too great needs no bound of its own.
func mask(at, n int) uint64 {
	if n < 1 || at < 0 || at >= wordBits {
		return 0
	}
	return (uint64(1)<<n - 1) << at
}
