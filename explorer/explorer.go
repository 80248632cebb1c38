// Package explorer: goes through everything that can happen in a machine, with
// several workers.
package explorer

import (
	"sync"

	"hearsay/api"
	"hearsay/machine"
)

// Explore tells what all ways through a machine come to. It goes in rounds: the
// workers share out the states that were met first in the round before, so that
// no worker ever has to wait till another one has found work for it.
func Explore(m machine.Machine, workers, limit int) (api.Report, api.Errno) {
	found := newRecord(m.First(), limit)
	for round := found.nextRound(); len(round) > 0; round = found.nextRound() {
		goOn(m, round, workers, found)
	}
	return found.report(m)
}

// goOn has the workers find what the states of a round lead to.
func goOn(m machine.Machine, round []machine.State, workers int, found *record) {
	workers = min(workers, len(round))
	var group sync.WaitGroup
	for first := range workers {
		group.Go(func() {
			for at := first; at < len(round); at += workers {
				if !found.note(round[at], following(m, round[at])) {
					return
				}
			}
		})
	}
	group.Wait()
}

// following gives the states that the moves of a state lead to.
func following(m machine.Machine, s machine.State) []machine.State {
	var states []machine.State
	for _, move := range m.Moves(s) {
		states = append(states, m.After(s, move))
	}
	return states
}
