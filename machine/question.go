package machine

import "hearsay/program"

// Holds tells whether what the program's question asks is so, if these are all
// the states that it can end in. One of them settles it: by exists one in which
// the formula is so, by forall one in which it is not.
func (m Machine) Holds(ends []State) bool {
	forAll := m.program.ForAll
	for _, s := range ends {
		if s.is(m.program.Formula) != forAll {
			return !forAll
		}
	}
	return forAll
}

// is tells whether a formula is so in a state.
func (s State) is(f program.Formula) bool {
	switch f.Shape {
	case program.Or:
		return s.hasPart(f, true)
	case program.And:
		return !s.hasPart(f, false)
	case program.Not:
		return !s.is(f.Parts[0])
	case program.Group:
		return s.is(f.Parts[0])
	case program.RegisterIs:
		return int(s.threads[f.Thread].registers[f.Register]) == f.Digit
	}
	return int(s.places[f.Place]) == f.Digit
}

// hasPart tells whether some part of a formula is so, or is not so, as wanted.
func (s State) hasPart(f program.Formula, wanted bool) bool {
	for _, part := range f.Parts {
		if s.is(part) == wanted {
			return true
		}
	}
	return false
}
