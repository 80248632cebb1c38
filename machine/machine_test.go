package machine

import (
	"slices"
	"testing"

	"hearsay/program"
)

func machineOf(threads ...[]program.Step) Machine {
	return New(&program.Program{Threads: threads, Formula: program.Formula{Shape: program.PlaceIs}})
}

func TestDo(t *testing.T) {
	before := State{places: [4]uint8{1, 2, 3, 4}}
	before.threads[1] = thread{next: 2, registers: [4]uint8{5, 6, 7, 8}}
	for _, c := range []struct {
		step program.Step
		want func(*State)
	}{
		{program.Step{Kind: program.StoreDigit, Place: 2, Digit: 9}, func(s *State) { s.places[2] = 9 }},
		{program.Step{Kind: program.StoreRegister, Place: 0, Register: 3}, func(s *State) { s.places[0] = 8 }},
		{program.Step{Kind: program.Load, Register: 1, Place: 3}, func(s *State) { s.threads[1].registers[1] = 4 }},
		{program.Step{Kind: program.Set, Register: 2, Digit: 0}, func(s *State) { s.threads[1].registers[2] = 0 }},
		{program.Step{Kind: program.Swap, Register: 0, Place: 1, Digit: 9}, func(s *State) { s.threads[1].registers[0], s.places[1] = 2, 9 }},
		{program.Step{Kind: program.Fence}, func(s *State) {}},
		{program.Step{Kind: program.Skip, Register: 2, Digit: 7, Count: 3}, func(s *State) { s.threads[1].next = 6 }},
		{program.Step{Kind: program.Skip, Register: 2, Digit: 6, Count: 3}, func(s *State) {}},
	} {
		want := before
		want.threads[1].next = 3
		c.want(&want)
		got := before
		if got.do(1, c.step); got != want {
			t.Errorf("P5: %+v makes %+v, want %+v", c.step, got, want)
		}
	}
}

func TestMoves(t *testing.T) {
	fence := program.Step{Kind: program.Fence}
	m := machineOf([]program.Step{fence, fence}, []program.Step{fence}, []program.Step{fence, fence})
	for _, c := range []struct {
		next [3]uint8
		want []Move
	}{
		{[3]uint8{0, 0, 0}, []Move{{0}, {1}, {2}}},
		{[3]uint8{1, 0, 1}, []Move{{0}, {1}, {2}}},
		{[3]uint8{0, 1, 0}, []Move{{0}, {2}}},
		{[3]uint8{2, 0, 1}, []Move{{1}, {2}}},
		{[3]uint8{1, 1, 2}, []Move{{0}}},
		{[3]uint8{2, 1, 2}, nil},
	} {
		var state State
		for i, next := range c.next {
			state.threads[i].next = next
		}
		if got := m.Moves(state); !slices.Equal(got, c.want) {
			t.Errorf("P5: Moves with the steps %v next = %v, want %v", c.next, got, c.want)
		}
	}
}

func TestAfterLeavesTheStateAlone(t *testing.T) {
	m := machineOf([]program.Step{{Kind: program.Swap, Register: 1, Place: 2, Digit: 3}})
	first := m.First()
	if after := m.After(first, Move{Thread: 0}); after == first {
		t.Error("P5: a swap of 3 into a place of 0 changed nothing")
	}
	if first != (State{}) {
		t.Errorf("P5: the first state has become %+v", first)
	}
}

func TestOutcome(t *testing.T) {
	m := machineOf(
		[]program.Step{{Kind: program.Load, Register: 3, Place: 2}},
		[]program.Step{{Kind: program.Fence}},
		[]program.Step{{Kind: program.Set, Register: 1}, {Kind: program.Set, Register: 0}},
	)
	state := State{places: [4]uint8{9, 8, 7, 6}}
	for i := range state.threads {
		state.threads[i].registers = [4]uint8{1, 2, 3, 4}
	}
	if got, want := m.Outcome(state), "0:r3=4 2:r0=1 2:r1=2 w=9 y=7"; got != want {
		t.Errorf("P5: Outcome = %q, want %q", got, want)
	}
}
