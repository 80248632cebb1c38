package machine

import (
	"hearsay/api"
	"hearsay/program"
)

// Move is one thing that can happen in a state: a thread does its next step, or
// one of its waiting stores goes to memory.
type Move struct {
	Thread  int
	Flushes bool
	Store   int // which of the waiting stores, if it flushes
}

// Moves tells what can happen in a state, in the order in which picks count it.
func (m Machine) Moves(s State) []Move {
	var moves []Move
	for i := range m.program.Threads {
		if m.canStep(s, i) {
			moves = append(moves, Move{Thread: i})
		}
		for _, at := range m.ripe(s.threads[i].waiting) {
			moves = append(moves, Move{Thread: i, Flushes: true, Store: at})
		}
	}
	return moves
}

func (m Machine) canStep(s State, number int) bool {
	steps, t := m.program.Threads[number], s.threads[number]
	if int(t.next) >= len(steps) {
		return false
	}
	switch steps[t.next].Kind {
	case program.Swap, program.Fence:
		return t.waiting.isEmpty()
	}
	return true
}

// ripe tells which of a thread's waiting stores may go to memory now.
func (m Machine) ripe(waiting buffer) []int {
	if waiting.isEmpty() {
		return nil
	}
	if m.model != api.PSO {
		return []int{0}
	}
	var ripe []int
	for place := range program.Places {
		if at, waits := waiting.oldest(place); waits {
			ripe = append(ripe, at)
		}
	}
	return ripe
}
