package program

import "testing"

func TestStepText(t *testing.T) {
	for _, c := range []struct {
		step Step
		want string
	}{
		{Step{Kind: StoreDigit, Place: 0, Digit: 9}, "w := 9"},
		{Step{Kind: StoreRegister, Place: 3, Register: 3}, "z := r3"},
		{Step{Kind: Load, Register: 1, Place: 2}, "r1 := y"},
		{Step{Kind: Set, Register: 2, Digit: 0}, "r2 := 0"},
		{Step{Kind: Swap, Register: 0, Place: 1, Digit: 5}, "r0 := swap x 5"},
		{Step{Kind: Fence}, "fence"},
		{Step{Kind: Skip, Register: 3, Digit: 4, Count: 7}, "if r3 = 4 skip 7"},
	} {
		if got := c.step.text(); got != c.want {
			t.Errorf("P4: text of %+v = %q, want %q", c.step, got, c.want)
		}
	}
}

func TestFormulaText(t *testing.T) {
	place := Formula{Shape: PlaceIs, Place: 3, Digit: 8}
	register := Formula{Shape: RegisterIs, Thread: 2, Register: 1, Digit: 7}
	with := func(shape Shape, parts ...Formula) Formula { return Formula{Shape: shape, Parts: parts} }
	for _, c := range []struct {
		formula Formula
		want    string
	}{
		{place, "z = 8"},
		{register, "2:r1 = 7"},
		{with(Not, place), "not z = 8"},
		{with(Not, with(Not, place)), "not not z = 8"},
		{with(Group, place), "(z = 8)"},
		{with(Group, with(Group, register)), "((2:r1 = 7))"},
		{with(Not, with(Group, place)), "not (z = 8)"},
		{with(Group, with(Not, place)), "(not z = 8)"},
		{with(And, place, register, place), "z = 8 and 2:r1 = 7 and z = 8"},
		{with(Or, with(And, place, register), with(Group, with(Or, place, register))), "z = 8 and 2:r1 = 7 or (z = 8 or 2:r1 = 7)"},
	} {
		if got := c.formula.text(); got != c.want {
			t.Errorf("P4: text = %q, want %q", got, c.want)
		}
	}
}

func TestPrint(t *testing.T) {
	test := Program{
		Threads: [][]Step{{{Kind: Fence}, {Kind: Load}}, {{Kind: StoreDigit}}},
		Formula: Formula{Shape: PlaceIs},
	}
	if got, want := test.Print(), "thread fence; r0 := w;\nthread w := 0;\nexists w = 0\n"; got != want {
		t.Errorf("P4: Print = %q, want %q", got, want)
	}
	test.ForAll = true
	if got, want := test.Print(), "thread fence; r0 := w;\nthread w := 0;\nforall w = 0\n"; got != want {
		t.Errorf("P4: Print = %q, want %q", got, want)
	}
}
