package machine

import (
	"strconv"
	"strings"

	"hearsay/program"
)

// Outcome writes what the program's registers and places have in a state.
func (m Machine) Outcome(s State) string {
	words := append(m.registerWords(s), m.placeWords(s)...)
	return strings.Join(words, " ")
}

func (m Machine) registerWords(s State) []string {
	var words []string
	for i := range m.program.Threads {
		for register := range program.Registers {
			if m.program.Sets(i, register) {
				name := strconv.Itoa(i) + ":" + program.RegisterName(register)
				words = append(words, has(name, s.threads[i].registers[register]))
			}
		}
	}
	return words
}

func (m Machine) placeWords(s State) []string {
	var words []string
	for place := range program.Places {
		if m.program.Names(place) {
			words = append(words, has(program.PlaceName(place), s.places[place]))
		}
	}
	return words
}

func has(name string, value uint8) string {
	return name + "=" + strconv.Itoa(int(value))
}
