package program

import "strconv"

const placeNames = "wxyz"

// Places and Registers tell how many places there are, and how many registers
// each thread has.
const (
	Places    = len(placeNames)
	Registers = 4
)

// PlaceName tells how a place is written.
func PlaceName(place int) string {
	return placeNames[place : place+1]
}

// RegisterName tells how a register is written.
func RegisterName(register int) string {
	return "r" + strconv.Itoa(register)
}

// Sets tells whether a step of the thread sets the register, be it one that is
// passed over whenever the thread runs.
func (p *Program) Sets(thread, register int) bool {
	for _, step := range p.Threads[thread] {
		if step.sets(register) {
			return true
		}
	}
	return false
}

// Names tells whether a step or the formula names the place.
func (p *Program) Names(place int) bool {
	for _, steps := range p.Threads {
		for _, step := range steps {
			if step.names(place) {
				return true
			}
		}
	}
	return p.Formula.names(place)
}

func (s Step) sets(register int) bool {
	switch s.Kind {
	case Load, Set, Swap:
		return s.Register == register
	}
	return false
}

func (s Step) names(place int) bool {
	switch s.Kind {
	case StoreDigit, StoreRegister, Load, Swap:
		return s.Place == place
	}
	return false
}

func (f Formula) names(place int) bool {
	for _, part := range f.Parts {
		if part.names(place) {
			return true
		}
	}
	return f.Shape == PlaceIs && f.Place == place
}
