package core

import (
	"testing"

	"verger/api"
	"verger/word"
)

// 18.2, Ways: each change of state that may be leads to a method by the two states, but that of a new task to waiting; no other does.
func TestStepsOfChanges(t *testing.T) {
	c, _ := New(api.Conf{Threads: 1, K: 0, Credits: 1})
	steps := c.steps()
	for from := range api.SCancelled + 2 {
		for to := range api.SCancelled + 2 {
			at := change{from, to}
			_, ok := steps[at]
			want := word.Can(from, to) && at != change{api.SFree, api.SWaiting}
			if ok != want {
				t.Errorf("%v: %t, want %t", at, ok, want)
			}
		}
	}
}
