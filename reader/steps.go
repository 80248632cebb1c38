package reader

import (
	"hearsay/api"
	"hearsay/program"
)

func (p *parser) thread() ([]program.Step, bool) {
	if p.threads == api.MaxThreads || !p.pass(wordThread) {
		return nil, false
	}
	var steps []program.Step
	var digits []int // where the last digit of each step stands
	for len(steps) == 0 || !p.threadEnds() {
		if len(steps) == api.MaxSteps {
			return nil, false
		}
		step, ok := p.step()
		if !ok || !p.pass(signSemicolon) {
			return nil, false
		}
		steps = append(steps, step)
		digits = append(digits, p.digitAt)
	}
	p.threads++
	p.checkSkips(steps, digits)
	return steps, true
}

func (p *parser) threadEnds() bool {
	switch p.hand.kind {
	case wordThread, wordExists, wordForall:
		return true
	}
	return false
}

// checkSkips is for a whole thread: only then it is known how many steps are
// behind each one.
func (p *parser) checkSkips(steps []program.Step, digits []int) {
	for i, step := range steps {
		if step.Kind == program.Skip && step.Count > len(steps)-1-i {
			p.wrongJump(digits[i])
		}
	}
}

func (p *parser) step() (program.Step, bool) {
	switch p.hand.kind {
	case place:
		return p.store()
	case register:
		return p.assignment()
	case wordIf:
		return p.branch()
	}
	return program.Step{Kind: program.Fence}, p.pass(wordFence)
}

func (p *parser) store() (program.Step, bool) {
	var step program.Step
	step.Place, _ = p.take(place)
	if !p.pass(signBecomes) {
		return step, false
	}
	var ok bool
	if step.Register, ok = p.take(register); ok {
		step.Kind = program.StoreRegister
		return step, true
	}
	step.Kind = program.StoreDigit
	step.Digit, ok = p.take(digit)
	return step, ok
}

// assignment reads one of the steps that begin with a register.
func (p *parser) assignment() (program.Step, bool) {
	var step program.Step
	step.Register, _ = p.take(register)
	if !p.pass(signBecomes) {
		return step, false
	}
	var ok bool
	if step.Place, ok = p.take(place); ok {
		step.Kind = program.Load
		return step, true
	}
	if step.Digit, ok = p.take(digit); ok {
		step.Kind = program.Set
		return step, true
	}
	return p.swap(step)
}

func (p *parser) swap(step program.Step) (program.Step, bool) {
	step.Kind = program.Swap
	if !p.pass(wordSwap) {
		return step, false
	}
	var ok bool
	if step.Place, ok = p.take(place); !ok {
		return step, false
	}
	step.Digit, ok = p.take(digit)
	return step, ok
}

func (p *parser) branch() (program.Step, bool) {
	step := program.Step{Kind: program.Skip}
	var ok bool
	if !p.pass(wordIf) {
		return step, false
	}
	if step.Register, ok = p.take(register); !ok {
		return step, false
	}
	if step.Digit, ok = p.equalsDigit(); !ok {
		return step, false
	}
	if !p.pass(wordSkip) {
		return step, false
	}
	step.Count, ok = p.take(digit)
	return step, ok
}

// equalsDigit reads what ends every comparison, in steps and in formulas.
func (p *parser) equalsDigit() (int, bool) {
	if !p.pass(signEquals) {
		return 0, false
	}
	return p.take(digit)
}
