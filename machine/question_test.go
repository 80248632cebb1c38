package machine

import (
	"testing"

	"hearsay/api"
	"hearsay/program"
)

func TestIs(t *testing.T) {
	state := State{places: [4]uint8{1, 2, 3, 4}}
	state.threads[2].registers = [4]uint8{5, 6, 7, 8}
	with := func(shape program.Shape, parts ...program.Formula) program.Formula {
		return program.Formula{Shape: shape, Parts: parts}
	}
	yes := program.Formula{Shape: program.PlaceIs, Place: 2, Digit: 3}
	no := program.Formula{Shape: program.RegisterIs, Thread: 2, Register: 1, Digit: 5}
	or, and, not, group := program.Or, program.And, program.Not, program.Group
	for _, c := range []struct {
		formula program.Formula
		want    bool
	}{
		{yes, true},
		{no, false},
		{program.Formula{Shape: program.PlaceIs, Place: 2, Digit: 0}, false},
		{program.Formula{Shape: program.RegisterIs, Thread: 2, Register: 1, Digit: 6}, true},
		{program.Formula{Shape: program.RegisterIs, Thread: 1, Register: 1, Digit: 6}, false},
		{program.Formula{Shape: program.RegisterIs, Thread: 1, Register: 1, Digit: 0}, true},
		{with(not, yes), false}, {with(not, no), true}, {with(group, yes), true}, {with(group, no), false},
		{with(or, no, no, yes), true}, {with(or, yes, no), true}, {with(or, no, no, no), false},
		{with(and, yes, yes, no), false}, {with(and, no, yes), false}, {with(and, yes, yes, yes), true},
		{with(not, with(group, with(or, no, with(and, yes, no)))), true},
		{with(and, with(not, with(not, yes)), with(group, with(or, no, yes))), true},
	} {
		if got := state.is(c.formula); got != c.want {
			t.Errorf("P6: %+v is so: %v, want %v", c.formula, got, c.want)
		}
	}
}

func TestHolds(t *testing.T) {
	yes, no := State{places: [4]uint8{0, 7, 0, 0}}, State{}
	for _, c := range []struct {
		ends        []State
		exists, all bool
	}{
		{[]State{yes}, true, true}, {[]State{no}, false, false},
		{[]State{yes, no}, true, false}, {[]State{no, yes}, true, false}, {[]State{no, yes, no}, true, false},
		{[]State{yes, yes}, true, true}, {[]State{no, no}, false, false},
	} {
		for _, forAll := range []bool{false, true} {
			formula := program.Formula{Shape: program.PlaceIs, Place: 1, Digit: 7}
			m := New(&program.Program{ForAll: forAll, Formula: formula}, api.SC)
			want := c.exists
			if forAll {
				want = c.all
			}
			if got := m.Holds(c.ends); got != want {
				t.Errorf("P6: of %+v it holds: %v, want %v (forall: %v)", c.ends, got, want, forAll)
			}
		}
	}
}
