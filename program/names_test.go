package program

import "testing"

func TestNameOfEach(t *testing.T) {
	for i, want := range []string{"w", "x", "y", "z"} {
		if got := PlaceName(i); got != want {
			t.Errorf("P5: PlaceName(%d) = %q, want %q", i, got, want)
		}
	}
	for i, want := range []string{"r0", "r1", "r2", "r3"} {
		if got := RegisterName(i); got != want {
			t.Errorf("P5: RegisterName(%d) = %q, want %q", i, got, want)
		}
	}
}

func TestWhatAStepSetsAndNames(t *testing.T) {
	for _, c := range []struct {
		kind        Kind
		sets, names bool
	}{
		{StoreDigit, false, true}, {StoreRegister, false, true}, {Load, true, true}, {Set, true, false},
		{Swap, true, true}, {Fence, false, false}, {Skip, false, false},
	} {
		step := Step{Kind: c.kind, Register: 2, Place: 3}
		for i := range 4 {
			if got, want := step.sets(i), c.sets && i == 2; got != want {
				t.Errorf("P5: a step of kind %d sets r%d: %v, want %v", c.kind, i, got, want)
			}
			if got, want := step.names(i), c.names && i == 3; got != want {
				t.Errorf("P5: a step of kind %d names the place %d: %v, want %v", c.kind, i, got, want)
			}
		}
	}
}

func TestSetsAndNamesOfAProgram(t *testing.T) {
	deep := Formula{Shape: Or, Parts: []Formula{
		{Shape: RegisterIs, Place: 1},
		{Shape: Not, Parts: []Formula{{Shape: Group, Parts: []Formula{{Shape: PlaceIs, Place: 2}}}}},
	}}
	test := Program{
		Threads: [][]Step{{{Kind: Fence}, {Kind: Set, Register: 1}}, {{Kind: Fence}, {Kind: Load, Register: 3, Place: 3}}},
		Formula: deep,
	}
	for i := range 4 {
		if got, want := test.Sets(0, i), i == 1; got != want {
			t.Errorf("P5: Sets(0, %d) = %v", i, got)
		}
		if got, want := test.Sets(1, i), i == 3; got != want {
			t.Errorf("P5: Sets(1, %d) = %v", i, got)
		}
		if got, want := test.Names(i), i >= 2; got != want {
			t.Errorf("P5: Names(%d) = %v", i, got)
		}
	}
}
