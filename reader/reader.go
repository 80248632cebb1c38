// Package reader: reads the text of a test.
package reader

import (
	"hearsay/api"
	"hearsay/program"
)

// parser goes through a text token by token. Its methods never go past a token
// that does not fit: when one of them answers false, the token at hand is the
// first one that is wrong.
type parser struct {
	text    string
	hand    token // the token at hand
	behind  int   // the place behind it
	digitAt int   // where the last digit stood that was taken
	threads int   // how many threads were read
	open    int   // how many brackets and nots are open
	jump    int   // the place of the first wrong jump; -1 if there is none
}

// Read gives the test that the text is; or an error and its place.
func Read(text string) (*program.Program, api.Errno, int) {
	if len(text) > api.MaxTest {
		return nil, api.ErrLong, 0
	}
	p := parser{text: text, jump: -1}
	p.advance()
	test, ok := p.test()
	if !ok {
		return nil, api.ErrSyntax, p.hand.at
	}
	if p.jump >= 0 {
		return nil, api.ErrJump, p.jump
	}
	return test, api.OK, 0
}

func (p *parser) advance() {
	p.hand, p.behind = tokenFrom(p.text, p.behind)
}

// take goes past the token at hand, if it is of this kind, and tells its number.
func (p *parser) take(wanted kind) (int, bool) {
	if p.hand.kind != wanted {
		return 0, false
	}
	taken := p.hand
	if wanted == digit {
		p.digitAt = taken.at
	}
	p.advance()
	return taken.number, true
}

// pass goes past the token at hand, if it is of this kind.
func (p *parser) pass(wanted kind) bool {
	_, ok := p.take(wanted)
	return ok
}

// wrongJump keeps the first place only: that is the one to be told.
func (p *parser) wrongJump(at int) {
	if p.jump < 0 {
		p.jump = at
	}
}

func (p *parser) test() (*program.Program, bool) {
	test := &program.Program{}
	for p.hand.kind == wordThread || p.threads == 0 {
		steps, ok := p.thread()
		if !ok {
			return nil, false
		}
		test.Threads = append(test.Threads, steps)
	}
	var ok bool
	if test.ForAll, ok = p.question(); !ok {
		return nil, false
	}
	if test.Formula, ok = p.formula(); !ok {
		return nil, false
	}
	return test, p.hand.kind == ending
}

// question tells whether the question is forall.
func (p *parser) question() (bool, bool) {
	if p.pass(wordForall) {
		return true, true
	}
	return false, p.pass(wordExists)
}
