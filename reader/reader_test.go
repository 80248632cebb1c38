package reader

import (
	"reflect"
	"testing"

	"hearsay/api"
	"hearsay/program"
)

func read(t *testing.T, text string) *program.Program {
	t.Helper()
	test, errno, at := Read(text)
	if errno != api.OK || at != 0 {
		t.Fatalf("P3: Read(%q) = %d, %d", text, errno, at)
	}
	return test
}

func TestSteps(t *testing.T) {
	test := read(t, "thread z := 9; y := r3; r1 := w; r2 := 8; r3 := swap x 7; fence; if r1 = 6 skip 1; fence; thread fence; exists x = 0")
	want := [][]program.Step{{
		{Kind: program.StoreDigit, Place: 3, Digit: 9},
		{Kind: program.StoreRegister, Place: 2, Register: 3},
		{Kind: program.Load, Register: 1, Place: 0},
		{Kind: program.Set, Register: 2, Digit: 8},
		{Kind: program.Swap, Register: 3, Place: 1, Digit: 7},
		{Kind: program.Fence},
		{Kind: program.Skip, Register: 1, Digit: 6, Count: 1},
		{Kind: program.Fence},
	}, {{Kind: program.Fence}}}
	if !reflect.DeepEqual(test.Threads, want) {
		t.Errorf("P3: threads = %+v, want %+v", test.Threads, want)
	}
}

func TestQuestion(t *testing.T) {
	if read(t, "thread fence; exists x = 0").ForAll {
		t.Error("P3: exists was read as forall")
	}
	if !read(t, "thread fence; forall x = 0").ForAll {
		t.Error("P3: forall was read as exists")
	}
}

func TestFormulas(t *testing.T) {
	with := func(shape program.Shape, parts ...program.Formula) program.Formula {
		return program.Formula{Shape: shape, Parts: parts}
	}
	x := program.Formula{Shape: program.PlaceIs, Place: 1, Digit: 1}
	y := program.Formula{Shape: program.PlaceIs, Place: 2, Digit: 2}
	r := program.Formula{Shape: program.RegisterIs, Thread: 1, Register: 3, Digit: 4}
	or, and, not, group := program.Or, program.And, program.Not, program.Group
	for _, c := range []struct {
		text string
		want program.Formula
	}{
		{"x = 1", x},
		{"1:r3 = 4", r},
		{"x = 1 or y = 2 or 1:r3 = 4", with(or, x, y, r)},
		{"x = 1 and y = 2 and 1:r3 = 4", with(and, x, y, r)},
		{"x = 1 or y = 2 and 1:r3 = 4", with(or, x, with(and, y, r))},
		{"x = 1 and y = 2 or 1:r3 = 4", with(or, with(and, x, y), r)},
		{"not x = 1 and y = 2", with(and, with(not, x), y)},
		{"not x = 1 or y = 2", with(or, with(not, x), y)},
		{"not not x = 1", with(not, with(not, x))},
		{"not (x = 1 or y = 2)", with(not, with(group, with(or, x, y)))},
		{"(x = 1 or y = 2) and 1:r3 = 4", with(and, with(group, with(or, x, y)), r)},
		{"x = 1 and ((not y = 2))", with(and, x, with(group, with(group, with(not, y))))},
	} {
		test := read(t, "thread fence; thread fence; exists "+c.text)
		if !reflect.DeepEqual(test.Formula, c.want) {
			t.Errorf("P3: formula of %q = %+v, want %+v", c.text, test.Formula, c.want)
		}
	}
}

func TestNothingBesideAnError(t *testing.T) {
	for _, text := range []string{"", "thread", "thread fence; exists 1:r0 = 0", string(make([]byte, api.MaxTest+1))} {
		if test, errno, _ := Read(text); test != nil || errno == api.OK {
			t.Errorf("P1: Read(%q) = %v, %d", text, test, errno)
		}
	}
}
