// Package hearsay: what threads may hear of one another: see DOC.md.
package hearsay

import (
	"hearsay/api"
	"hearsay/explorer"
	"hearsay/machine"
	"hearsay/program"
	"hearsay/reader"
)

// Test is a test that was read.
type Test struct {
	program *program.Program // nil only in a Test that Load did not make
}

func (t *Test) isEmpty() bool {
	return t == nil || t.program == nil
}

// Load reads a test (P3).
func Load(text string) (*Test, api.Errno, int) {
	read, errno, at := reader.Read(text)
	if errno != api.OK {
		return nil, errno, at
	}
	return &Test{program: read}, api.OK, 0
}

// Print writes it (P4).
func (t *Test) Print() string {
	if t.isEmpty() {
		return ""
	}
	return t.program.Print()
}

// Walk goes one way (P5).
func (t *Test) Walk(model int, picks []int) (string, api.Errno) {
	if !isModel(model) {
		return "", api.ErrModel
	}
	if t.isEmpty() {
		return "", api.OK
	}
	return walk(machine.New(t.program, model), picks)
}

// Explore goes all ways (P6).
func (t *Test) Explore(model int, workers int, limit int) (api.Report, api.Errno) {
	if !isModel(model) {
		return api.Report{}, api.ErrModel
	}
	if !isWithin(workers, api.MaxWorkers) || !isWithin(limit, api.MaxStates) {
		return api.Report{}, api.ErrArg
	}
	if t.isEmpty() {
		return api.Report{}, api.OK
	}
	return explorer.Explore(machine.New(t.program, model), workers, limit)
}

func isModel(model int) bool {
	switch model {
	case api.SC, api.TSO, api.PSO:
		return true
	}
	return false
}

func isWithin(number, most int) bool {
	return 1 <= number && number <= most
}
