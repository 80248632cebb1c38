package explorer

import (
	"slices"
	"sync"

	"hearsay/api"
	"hearsay/machine"
)

// record is what the workers have found. In which order they find it hangs on
// how they run, so that nothing told of it may hang on an order.
type record struct {
	limit int // how many states may be met

	mutex sync.Mutex // held by whoever reads or writes what follows
	met   map[machine.State]struct{}
	fresh []machine.State // those of the met ones that are for the next round
	final []machine.State
	over  bool // there is a state more than may be met
}

// newRecord gives a record in which the first state has been met; at least one
// may be.
func newRecord(first machine.State, limit int) *record {
	return &record{
		limit: limit,
		met:   map[machine.State]struct{}{first: {}},
		fresh: []machine.State{first},
	}
}

// note enters what a state leads to. It answers false if there is no use in going
// on.
func (r *record) note(from machine.State, following []machine.State) bool {
	r.mutex.Lock()
	defer r.mutex.Unlock()
	if len(following) == 0 {
		r.final = append(r.final, from)
	}
	for _, s := range following {
		r.meet(s)
	}
	return !r.over
}

// meet is for one who holds the mutex.
func (r *record) meet(s machine.State) {
	if _, known := r.met[s]; known {
		return
	}
	if len(r.met) == r.limit {
		r.over = true
		return
	}
	r.met[s] = struct{}{}
	r.fresh = append(r.fresh, s)
}

// nextRound hands out the states that have not been gone on from; none, if there
// is no use in it.
func (r *record) nextRound() []machine.State {
	r.mutex.Lock()
	defer r.mutex.Unlock()
	if r.over {
		return nil
	}
	round := r.fresh
	r.fresh = nil
	return round
}

// report is for when there are no more rounds.
func (r *record) report(m machine.Machine) (api.Report, api.Errno) {
	r.mutex.Lock()
	defer r.mutex.Unlock()
	if r.over {
		return api.Report{}, api.ErrLimit
	}
	var outcomes []string
	for _, s := range r.final {
		outcomes = append(outcomes, m.Outcome(s))
	}
	slices.Sort(outcomes)
	return api.Report{
		Outcomes: slices.Compact(outcomes),
		States:   len(r.met),
		Holds:    m.Holds(r.final),
	}, api.OK
}
