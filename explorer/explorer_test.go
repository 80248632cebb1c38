package explorer

import (
	"slices"
	"sync"
	"testing"

	"hearsay/api"
	"hearsay/machine"
	"hearsay/reader"
)

func machineOf(t *testing.T, text string, model int) machine.Machine {
	t.Helper()
	read, errno, at := reader.Read(text)
	if errno != api.OK {
		t.Fatalf("P3: Read(%q) = %d, %d", text, errno, at)
	}
	return machine.New(read, model)
}

func TestFollowing(t *testing.T) {
	m := machineOf(t, "thread x := 1; fence; thread y := 1; exists x = 0", api.TSO)
	first := m.First()
	begun := following(m, first)
	if len(begun) != 2 || begun[0] == begun[1] || slices.Contains(begun, first) {
		t.Fatalf("P6: the first state leads to %+v", begun)
	}
	// The fence has to wait: the flush of the one thread, the step of the other.
	if got := following(m, begun[0]); len(got) != 2 {
		t.Errorf("P6: a state with two moves leads to %+v", got)
	}
	last := begun[0]
	for next := following(m, last); len(next) > 0; next = following(m, last) {
		last = next[0]
	}
	if got := m.Outcome(last); got != "x=1 y=1" {
		t.Errorf("P6: the way ends with %q", got)
	}
}

// chain gives so many states, each of which follows on the one ahead of it.
func chain(t *testing.T, count int) []machine.State {
	t.Helper()
	m := machineOf(t, "thread fence; fence; fence; fence; fence; fence; fence; fence; exists x = 0", api.SC)
	states := []machine.State{m.First()}
	for len(states) < count {
		states = append(states, following(m, states[len(states)-1])...)
	}
	return states
}

func TestRecordMeetsEachOnce(t *testing.T) {
	states := chain(t, 4)
	r := newRecord(states[0], 4)
	if got := r.nextRound(); !slices.Equal(got, states[:1]) {
		t.Errorf("P6: the first round has %+v", got)
	}
	if got := r.nextRound(); len(got) != 0 {
		t.Errorf("P6: a round with nothing new has %+v", got)
	}
	if !r.note(states[0], states[1:3]) || !r.note(states[1], states[:4]) || !r.note(states[2], states) {
		t.Error("P6: with room for all there was none")
	}
	if got := r.nextRound(); !slices.Equal(got, states[1:]) {
		t.Errorf("P6: the second round has %+v, want %+v", got, states[1:])
	}
	if len(r.met) != 4 || len(r.final) != 0 || r.over {
		t.Errorf("P6: the record is %+v", r)
	}
	if r.note(states[3], nil); !slices.Equal(r.final, states[3:]) {
		t.Errorf("P6: the final states are %+v", r.final)
	}
}

func TestRecordWithTooManyStates(t *testing.T) {
	states := chain(t, 4)
	r := newRecord(states[0], 3)
	if !r.note(states[0], states[:3]) {
		t.Error("P6: there was no room for the third of three states")
	}
	if r.note(states[2], states[3:]) {
		t.Error("P6: there was room for the fourth of three states")
	}
	if r.note(states[1], states[:1]) {
		t.Error("P6: a worker is to go on when there are too many states")
	}
	if got := r.nextRound(); len(got) != 0 {
		t.Errorf("P6: when there are too many states a round has %+v", got)
	}
	m := machineOf(t, "thread fence; exists x = 0", api.SC)
	if got, errno := r.report(m); errno != api.ErrLimit || got.Outcomes != nil || got.States != 0 || got.Holds {
		t.Errorf("P6: the report is %+v, %d", got, errno)
	}
}

func TestRecordFromManyAtATime(t *testing.T) {
	states := chain(t, 9)
	r := newRecord(states[0], 9)
	var group sync.WaitGroup
	for i := range 64 {
		group.Go(func() {
			for range 50 {
				r.note(states[i%8], states[i%8+1:])
			}
		})
	}
	group.Wait()
	if got := r.nextRound(); len(got) != 9 || len(r.met) != 9 {
		t.Errorf("P7: met are %d states, and for the next round there are %d", len(r.met), len(got))
	}
}

func TestGoOnLeavesNoStateOut(t *testing.T) {
	m := machineOf(t, "thread x := 1; thread x := 2; thread x := 3; thread x := 4; exists x = 0", api.PSO)
	round := following(m, m.First())
	for _, s := range round {
		round = append(round, following(m, s)...)
	}
	for workers := 1; workers <= api.MaxWorkers; workers++ {
		r := newRecord(m.First(), api.MaxStates)
		goOn(m, round, workers, r)
		for _, s := range round {
			for _, next := range following(m, s) {
				if _, met := r.met[next]; !met {
					t.Fatalf("P7: by %d workers %+v was not met", workers, next)
				}
			}
		}
	}
}

func TestExplore(t *testing.T) {
	m := machineOf(t, "thread x := 1; thread x := 2; exists x = 2", api.TSO)
	for workers := 1; workers <= api.MaxWorkers; workers++ {
		got, errno := Explore(m, workers, 10)
		if errno != api.OK || got.States != 10 || !got.Holds || !slices.Equal(got.Outcomes, []string{"x=1", "x=2"}) {
			t.Errorf("P6: by %d workers: %+v, %d", workers, got, errno)
		}
		if got, errno := Explore(m, workers, 9); errno != api.ErrLimit || got.Outcomes != nil || got.States != 0 || got.Holds {
			t.Errorf("P6: by %d workers, with one state too many: %+v, %d", workers, got, errno)
		}
	}
}
