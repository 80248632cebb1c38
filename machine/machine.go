// Package machine: what a program's threads do, move by move.
package machine

import (
	"hearsay/api"
	"hearsay/program"
)

// Machine runs a program by a model. It keeps no state, so that several
// goroutines may use it at a time.
type Machine struct {
	program *program.Program
	model   int
}

type thread struct {
	next      uint8 // which step comes next
	registers [program.Registers]uint8
	waiting   buffer
}

// State is where a machine has come to. It is a plain value: a move makes a new
// one, and two of them are held against each other by ==.
type State struct {
	threads [api.MaxThreads]thread
	places  [program.Places]uint8
}

// New gives the machine of a program, by one of the models of package api.
func New(p *program.Program, model int) Machine {
	return Machine{program: p, model: model}
}

// First is the state that everything begins with.
func (m Machine) First() State {
	return State{}
}

// After gives the state that one of a state's moves leads to.
func (m Machine) After(s State, move Move) State {
	if move.Flushes {
		s.flush(move.Thread, move.Store)
		return s
	}
	next := s.threads[move.Thread].next
	m.do(&s, move.Thread, m.program.Threads[move.Thread][next])
	return s
}

func (m Machine) do(s *State, number int, step program.Step) {
	t := &s.threads[number]
	t.next++
	value := uint8(step.Digit)
	switch step.Kind {
	case program.StoreRegister:
		value = t.registers[step.Register]
		fallthrough
	case program.StoreDigit:
		t.waiting.add(store{place: uint8(step.Place), value: value})
		if m.model == api.SC {
			s.flush(number, 0)
		}
	case program.Load:
		t.registers[step.Register] = s.seen(number, step.Place)
	case program.Set:
		t.registers[step.Register] = value
	case program.Swap: // no store of the thread waits, so it sees the memory
		t.registers[step.Register] = s.places[step.Place]
		s.places[step.Place] = value
	case program.Skip:
		if t.registers[step.Register] == value {
			t.next += uint8(step.Count)
		}
	}
}

// flush brings one of a thread's waiting stores to memory.
func (s *State) flush(number, at int) {
	gone := s.threads[number].waiting.take(at)
	s.places[gone.place] = gone.value
}

// seen tells what a thread finds in a place: its own stores ahead of the memory.
func (s *State) seen(number, place int) uint8 {
	if value, waits := s.threads[number].waiting.newest(place); waits {
		return value
	}
	return s.places[place]
}
