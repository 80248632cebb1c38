package hearsay

import (
	"hearsay/api"
	"hearsay/machine"
)

// walk makes the moves that the picks tell, up to a final state.
func walk(m machine.Machine, picks []int) (string, api.Errno) {
	state := m.First()
	for moves := m.Moves(state); len(moves) > 0; moves = m.Moves(state) {
		if len(picks) == 0 {
			return "", api.ErrPicks
		}
		state = m.After(state, moves[picked(picks[0], len(moves))])
		picks = picks[1:]
	}
	return m.Outcome(state), api.OK
}

// picked tells which one of so many moves a pick means.
func picked(pick, moves int) int {
	if pick < 0 {
		pick = -pick
	}
	if pick < 0 { // the least number: there is no such number without its sign
		return 0
	}
	return pick % moves
}
