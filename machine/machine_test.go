package machine

import (
	"slices"
	"testing"

	"hearsay/api"
	"hearsay/program"
)

func machineOf(model int, threads ...[]program.Step) Machine {
	return New(&program.Program{Threads: threads, Formula: program.Formula{Shape: program.PlaceIs}}, model)
}

// row is a buffer with these stores, from the oldest on.
func row(stores ...store) buffer {
	b := buffer{count: uint8(len(stores))}
	copy(b.stores[:], stores)
	return b
}

func checkDo(t *testing.T, model int, before State, step program.Step, change func(*State)) {
	t.Helper()
	want := before
	want.threads[1].next++
	change(&want)
	got := before
	if machineOf(model).do(&got, 1, step); got != want {
		t.Errorf("P5: %+v by model %d makes %+v, want %+v", step, model, got, want)
	}
}

func TestDo(t *testing.T) {
	before := State{places: [4]uint8{1, 2, 3, 4}}
	before.threads[1] = thread{next: 2, registers: [4]uint8{5, 6, 7, 8}}
	for _, c := range []struct {
		step program.Step
		want func(*State)
	}{
		{program.Step{Kind: program.Load, Register: 1, Place: 3}, func(s *State) { s.threads[1].registers[1] = 4 }},
		{program.Step{Kind: program.Set, Register: 2, Digit: 0}, func(s *State) { s.threads[1].registers[2] = 0 }},
		{program.Step{Kind: program.Swap, Register: 0, Place: 1, Digit: 9}, func(s *State) { s.threads[1].registers[0], s.places[1] = 2, 9 }},
		{program.Step{Kind: program.Fence}, func(s *State) {}},
		{program.Step{Kind: program.Skip, Register: 2, Digit: 7, Count: 3}, func(s *State) { s.threads[1].next = 6 }},
		{program.Step{Kind: program.Skip, Register: 2, Digit: 6, Count: 3}, func(s *State) {}},
	} {
		for _, model := range []int{api.SC, api.TSO, api.PSO} {
			checkDo(t, model, before, c.step, c.want)
		}
	}
	digit := program.Step{Kind: program.StoreDigit, Place: 2, Digit: 9}
	register := program.Step{Kind: program.StoreRegister, Place: 0, Register: 3}
	checkDo(t, api.SC, before, digit, func(s *State) { s.places[2] = 9 })
	checkDo(t, api.SC, before, register, func(s *State) { s.places[0] = 8 })
	for _, model := range []int{api.TSO, api.PSO} {
		checkDo(t, model, before, digit, func(s *State) { s.threads[1].waiting = row(store{2, 9}) })
		checkDo(t, model, before, register, func(s *State) { s.threads[1].waiting = row(store{0, 8}) })
	}
}

func TestDoWhileStoresWait(t *testing.T) {
	before := State{places: [4]uint8{1, 2, 3, 4}}
	before.threads[0].waiting = row(store{3, 7})
	before.threads[1].waiting = row(store{0, 5}, store{2, 6}, store{0, 8})
	before.threads[2].waiting = row(store{1, 9})
	for _, model := range []int{api.TSO, api.PSO} {
		for place, want := range []uint8{8, 2, 6, 4} {
			load := program.Step{Kind: program.Load, Register: 1, Place: place}
			checkDo(t, model, before, load, func(s *State) { s.threads[1].registers[1] = want })
		}
		last := program.Step{Kind: program.StoreDigit, Place: 2, Digit: 1}
		checkDo(t, model, before, last, func(s *State) {
			s.threads[1].waiting = row(store{0, 5}, store{2, 6}, store{0, 8}, store{2, 1})
		})
	}
}

func TestFlush(t *testing.T) {
	before := State{places: [4]uint8{1, 2, 3, 4}}
	before.threads[0].waiting = row(store{3, 7})
	before.threads[1].waiting = row(store{0, 5}, store{2, 6}, store{0, 8})
	for at, want := range []State{
		{places: [4]uint8{5, 2, 3, 4}, threads: [4]thread{{waiting: row(store{3, 7})}, {waiting: row(store{2, 6}, store{0, 8})}}},
		{places: [4]uint8{1, 2, 6, 4}, threads: [4]thread{{waiting: row(store{3, 7})}, {waiting: row(store{0, 5}, store{0, 8})}}},
	} {
		move := Move{Thread: 1, Flushes: true, Store: at}
		if got := machineOf(api.PSO).After(before, move); got != want {
			t.Errorf("P5: %+v makes %+v, want %+v", move, got, want)
		}
	}
}

func TestFullBufferEmptiesToZero(t *testing.T) {
	for at := range api.MaxSteps {
		var b buffer
		for n := range api.MaxSteps {
			b.add(store{uint8(n % 4), uint8(n + 1)})
		}
		if got, want := b.take(at), (store{uint8(at % 4), uint8(at + 1)}); got != want {
			t.Errorf("P5: take(%d) = %+v, want %+v", at, got, want)
		}
		for n := range api.MaxSteps {
			if n == at {
				continue
			}
			if got := b.take(0); got.value != uint8(n+1) {
				t.Errorf("P5: behind take(%d) comes %+v, want the value %d", at, got, n+1)
			}
		}
		if b != (buffer{}) {
			t.Errorf("P5: the emptied buffer is %+v", b)
		}
	}
}

func TestMoves(t *testing.T) {
	fence := program.Step{Kind: program.Fence}
	m := machineOf(api.SC, []program.Step{fence, fence}, []program.Step{fence}, []program.Step{fence, fence})
	for _, c := range []struct {
		next [3]uint8
		want []Move
	}{
		{[3]uint8{0, 0, 0}, []Move{{Thread: 0}, {Thread: 1}, {Thread: 2}}},
		{[3]uint8{1, 0, 1}, []Move{{Thread: 0}, {Thread: 1}, {Thread: 2}}},
		{[3]uint8{0, 1, 0}, []Move{{Thread: 0}, {Thread: 2}}},
		{[3]uint8{2, 0, 1}, []Move{{Thread: 1}, {Thread: 2}}},
		{[3]uint8{1, 1, 2}, []Move{{Thread: 0}}},
		{[3]uint8{2, 1, 2}, nil},
	} {
		var state State
		for i, next := range c.next {
			state.threads[i].next = next
		}
		if got := m.Moves(state); !slices.Equal(got, c.want) {
			t.Errorf("P5: Moves with the steps %v next = %v, want %v", c.next, got, c.want)
		}
	}
}

func TestMovesWhileStoresWait(t *testing.T) {
	fence := []program.Step{{Kind: program.Fence}}
	swap := []program.Step{{Kind: program.Swap}}
	load := []program.Step{{Kind: program.Load}}
	many := row(store{3, 1}, store{1, 2}, store{3, 3}, store{0, 4}, store{1, 5})
	step := func(thread int) Move { return Move{Thread: thread} }
	flush := func(thread, at int) Move { return Move{Thread: thread, Flushes: true, Store: at} }
	for _, c := range []struct {
		model   int
		steps   [][]program.Step
		next    [4]uint8
		waiting [4]buffer
		want    []Move
	}{
		{api.TSO, [][]program.Step{load, fence}, [4]uint8{}, [4]buffer{many}, []Move{step(0), flush(0, 0), step(1)}},
		{api.TSO, [][]program.Step{fence, swap, load}, [4]uint8{}, [4]buffer{many, many, many},
			[]Move{flush(0, 0), flush(1, 0), step(2), flush(2, 0)}},
		{api.TSO, [][]program.Step{load, load}, [4]uint8{1, 1}, [4]buffer{{}, many}, []Move{flush(1, 0)}},
		{api.PSO, [][]program.Step{load, fence}, [4]uint8{}, [4]buffer{many},
			[]Move{step(0), flush(0, 3), flush(0, 1), flush(0, 0), step(1)}},
		{api.PSO, [][]program.Step{swap, fence}, [4]uint8{}, [4]buffer{row(store{2, 0}), many},
			[]Move{flush(0, 0), flush(1, 3), flush(1, 1), flush(1, 0)}},
		{api.PSO, [][]program.Step{swap, fence}, [4]uint8{1, 0}, [4]buffer{row(store{2, 0}, store{2, 0})}, []Move{flush(0, 0), step(1)}},
	} {
		var state State
		for i := range state.threads {
			state.threads[i].next, state.threads[i].waiting = c.next[i], c.waiting[i]
		}
		if got := machineOf(c.model, c.steps...).Moves(state); !slices.Equal(got, c.want) {
			t.Errorf("P5: Moves by model %d of %+v = %v, want %v", c.model, state, got, c.want)
		}
	}
}

func TestAfterLeavesTheStateAlone(t *testing.T) {
	m := machineOf(api.SC, []program.Step{{Kind: program.Swap, Register: 1, Place: 2, Digit: 3}})
	first := m.First()
	if after := m.After(first, Move{Thread: 0}); after == first {
		t.Error("P5: a swap of 3 into a place of 0 changed nothing")
	}
	if first != (State{}) {
		t.Errorf("P5: the first state has become %+v", first)
	}
}

func TestOutcome(t *testing.T) {
	m := machineOf(
		api.SC,
		[]program.Step{{Kind: program.Load, Register: 3, Place: 2}},
		[]program.Step{{Kind: program.Fence}},
		[]program.Step{{Kind: program.Set, Register: 1}, {Kind: program.Set, Register: 0}},
	)
	state := State{places: [4]uint8{9, 8, 7, 6}}
	for i := range state.threads {
		state.threads[i].registers = [4]uint8{1, 2, 3, 4}
	}
	if got, want := m.Outcome(state), "0:r3=4 2:r0=1 2:r1=2 w=9 y=7"; got != want {
		t.Errorf("P5: Outcome = %q, want %q", got, want)
	}
}
