// Package machine: what a program's threads do, move by move.
package machine

import (
	"hearsay/api"
	"hearsay/program"
)

// Machine runs a program. It keeps no state, so that several goroutines may use
// it at a time.
type Machine struct {
	program *program.Program
}

type thread struct {
	next      uint8 // which step comes next
	registers [program.Registers]uint8
}

// State is where a machine has come to. It is a plain value: a move makes a new
// one, and two of them are held against each other by ==.
type State struct {
	threads [api.MaxThreads]thread
	places  [program.Places]uint8
}

// Move is one thing that can happen in a state.
type Move struct {
	Thread int
}

// New gives the machine of a program.
func New(p *program.Program) Machine {
	return Machine{program: p}
}

// First is the state that everything begins with.
func (m Machine) First() State {
	return State{}
}

// Moves tells what can happen in a state, in the order in which picks count it.
func (m Machine) Moves(s State) []Move {
	var moves []Move
	for i, steps := range m.program.Threads {
		if int(s.threads[i].next) < len(steps) {
			moves = append(moves, Move{Thread: i})
		}
	}
	return moves
}

// After gives the state that one of a state's moves leads to.
func (m Machine) After(s State, move Move) State {
	next := s.threads[move.Thread].next
	s.do(move.Thread, m.program.Threads[move.Thread][next])
	return s
}

func (s *State) do(number int, step program.Step) {
	t := &s.threads[number]
	t.next++
	value := uint8(step.Digit)
	switch step.Kind {
	case program.StoreRegister:
		value = t.registers[step.Register]
		fallthrough
	case program.StoreDigit:
		s.places[step.Place] = value
	case program.Load:
		t.registers[step.Register] = s.places[step.Place]
	case program.Set:
		t.registers[step.Register] = value
	case program.Swap:
		t.registers[step.Register] = s.places[step.Place]
		s.places[step.Place] = value
	case program.Skip:
		if t.registers[step.Register] == value {
			t.next += uint8(step.Count)
		}
	}
}
