package reader

import (
	"hearsay/api"
	"hearsay/program"
)

func (p *parser) formula() (program.Formula, bool) {
	return p.parts(program.Or, wordOr, p.conjunction)
}

func (p *parser) conjunction() (program.Formula, bool) {
	return p.parts(program.And, wordAnd, p.part)
}

// parts reads one part or more, with the word between them. A part that stands
// alone is given as it is.
func (p *parser) parts(shape program.Shape, between kind, part func() (program.Formula, bool)) (program.Formula, bool) {
	first, ok := part()
	if !ok || p.hand.kind != between {
		return first, ok
	}
	whole := program.Formula{Shape: shape, Parts: []program.Formula{first}}
	for p.pass(between) {
		next, ok := part()
		if !ok {
			return whole, false
		}
		whole.Parts = append(whole.Parts, next)
	}
	return whole, true
}

func (p *parser) part() (program.Formula, bool) {
	switch p.hand.kind {
	case wordNot:
		return p.nested(program.Not, p.part)
	case signOpen:
		group, ok := p.nested(program.Group, p.formula)
		return group, ok && p.pass(signClose)
	case digit:
		return p.registerAtom()
	}
	return p.placeAtom()
}

// nested goes past the not or the bracket at hand, if one more may be open, and
// reads what it holds.
func (p *parser) nested(shape program.Shape, inner func() (program.Formula, bool)) (program.Formula, bool) {
	if p.open == api.MaxNest {
		return program.Formula{}, false
	}
	p.advance()
	p.open++
	held, ok := inner()
	p.open--
	return program.Formula{Shape: shape, Parts: []program.Formula{held}}, ok
}

func (p *parser) registerAtom() (program.Formula, bool) {
	atom := program.Formula{Shape: program.RegisterIs}
	atom.Thread, _ = p.take(digit)
	if atom.Thread >= p.threads {
		p.wrongJump(p.digitAt)
	}
	if !p.pass(signColon) {
		return atom, false
	}
	var ok bool
	if atom.Register, ok = p.take(register); !ok {
		return atom, false
	}
	atom.Digit, ok = p.equalsDigit()
	return atom, ok
}

func (p *parser) placeAtom() (program.Formula, bool) {
	atom := program.Formula{Shape: program.PlaceIs}
	var ok bool
	if atom.Place, ok = p.take(place); !ok {
		return atom, false
	}
	atom.Digit, ok = p.equalsDigit()
	return atom, ok
}
