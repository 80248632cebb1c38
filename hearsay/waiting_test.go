package hearsay

import (
	"slices"
	"strings"
	"testing"

	"hearsay/api"
)

const messagePassing = "thread x := 1; y := 1; thread r0 := y; r1 := x; exists 1:r0 = 1 and 1:r1 = 0"

type wantedWalk struct {
	text  string
	picks []int
	want  string
}

// checkWaiting asks besides that the walk needs all of its picks.
func checkWaiting(t *testing.T, models []int, cases ...wantedWalk) {
	t.Helper()
	for _, c := range cases {
		for _, model := range models {
			checkWalk(t, c.text, model, c.picks, c.want, api.OK)
			checkWalk(t, c.text, model, c.picks[:len(c.picks)-1], "", api.ErrPicks)
		}
	}
}

func TestWalkStoresWait(t *testing.T) {
	const alone = "thread x := 4; exists x = 0"
	const heard = "thread x := 4; thread r0 := x; exists x = 0"
	checkWaiting(t, []int{api.SC},
		wantedWalk{alone, []int{0}, "x=4"},
		wantedWalk{heard, []int{0, 0}, "1:r0=4 x=4"},
	)
	checkWaiting(t, []int{api.TSO, api.PSO},
		wantedWalk{alone, []int{0, 0}, "x=4"},
		wantedWalk{heard, []int{0, 1, 0}, "1:r0=0 x=4"},
		wantedWalk{heard, []int{0, 0, 0}, "1:r0=4 x=4"},
		wantedWalk{heard, []int{1, 0, 0}, "1:r0=0 x=4"},
		// What goes to memory last stays, whichever was stored first.
		wantedWalk{"thread x := 1; thread x := 2; exists x = 0", []int{0, 1, 0, 0}, "x=2"},
		wantedWalk{"thread x := 1; thread x := 2; exists x = 0", []int{0, 1, 1, 0}, "x=1"},
	)
}

func TestWalkSeesItsOwnStores(t *testing.T) {
	checkWaiting(t, []int{api.TSO, api.PSO},
		wantedWalk{"thread x := 1; r0 := x; exists x = 0", []int{0, 0, 0}, "0:r0=1 x=1"},
		wantedWalk{"thread x := 1; r0 := x; exists x = 0", []int{0, 1, 0}, "0:r0=1 x=1"},
		// The last one, though it stores 0, and though the first has gone to memory.
		wantedWalk{"thread x := 1; x := 0; r0 := x; exists x = 0", []int{0, 0, 0, 0, 0}, "0:r0=0 x=0"},
		wantedWalk{"thread x := 1; x := 2; r0 := x; exists x = 0", []int{0, 0, 1, 0, 0}, "0:r0=2 x=2"},
		wantedWalk{"thread x := 1; x := 2; x := 3; r0 := x; exists x = 0", []int{0, 0, 0, 1, 0, 0, 0}, "0:r0=3 x=3"},
		// Of that place only.
		wantedWalk{"thread x := 1; y := 2; r0 := x; r1 := z; exists x = 0", []int{0, 0, 0, 0, 0, 0}, "0:r0=1 0:r1=0 x=1 y=2 z=0"},
		// Behind its flush the other thread's store is seen.
		wantedWalk{"thread x := 1; r0 := x; thread x := 2; exists x = 0", []int{0, 1, 1, 1, 0}, "0:r0=2 x=2"},
		// Ahead of it the thread's own is.
		wantedWalk{"thread x := 1; r0 := x; thread x := 2; exists x = 0", []int{0, 2, 2, 0, 0}, "0:r0=1 x=1"},
		// A register's value is taken when the step is done.
		wantedWalk{"thread r0 := 5; x := r0; r0 := 6; r1 := x; exists x = 0", []int{0, 0, 0, 0, 0}, "0:r0=6 0:r1=5 x=5"},
		// A value that was seen in the buffer leads the thread on.
		wantedWalk{"thread x := 1; r0 := x; if r0 = 1 skip 1; y := 2; exists x = 0", []int{0, 0, 0, 0}, "0:r0=1 x=1 y=0"},
	)
}

func TestWalkFenceAndSwapWait(t *testing.T) {
	const fenced = "thread x := 1; fence; r0 := y; thread y := 1; exists x = 0"
	const swapped = "thread x := 1; r0 := swap y 2; thread y := 1; exists x = 0"
	checkWaiting(t, []int{api.TSO, api.PSO},
		// The moves behind the first: its flush, the other thread's step.
		wantedWalk{fenced, []int{0, 0, 0, 0, 0, 0}, "0:r0=0 x=1 y=1"},
		wantedWalk{fenced, []int{0, 1, 1, 0, 0, 0}, "0:r0=1 x=1 y=1"},
		wantedWalk{swapped, []int{0, 0, 0, 0, 0}, "0:r0=0 x=1 y=1"},
		wantedWalk{swapped, []int{0, 1, 1, 0, 0}, "0:r0=1 x=1 y=2"},
		// What a swap stores is in memory at once; the store ahead of it, too.
		wantedWalk{"thread x := 1; r0 := swap x 2; exists x = 0", []int{0, 1, 0}, "0:r0=1 x=2"},
		wantedWalk{"thread r0 := swap x 2; thread r0 := x; exists x = 0", []int{0, 0}, "0:r0=0 1:r0=2 x=2"},
		// Another thread's stores hold nobody up.
		wantedWalk{"thread x := 1; thread fence; r0 := swap x 2; exists x = 0", []int{0, 1, 1, 0}, "1:r0=0 x=1"},
		// What is passed over holds nobody up.
		wantedWalk{"thread x := 1; if r0 = 0 skip 2; fence; r1 := swap x 2; r2 := x; exists x = 0", []int{0, 0, 0, 0}, "0:r1=0 0:r2=1 x=1"},
	)
	// One store has gone and one waits: still the flush alone.
	const two = "thread x := 1; y := 1; fence; z := 1; exists x = 0"
	checkWaiting(t, []int{api.TSO}, wantedWalk{two, []int{0, 0, 9, 9, 9, 9, 9}, "x=1 y=1 z=1"})
	checkWaiting(t, []int{api.PSO}, wantedWalk{two, []int{0, 0, 1, 9, 9, 9, 9}, "x=1 y=1 z=1"})
}

func TestWalkOldestFirst(t *testing.T) {
	const rowOfStores = "thread z := 1; w := 2; z := 3; thread r0 := w; r1 := z; exists x = 0"
	checkWaiting(t, []int{api.TSO},
		wantedWalk{rowOfStores, []int{0, 0, 0, 0, 1, 1, 0, 0}, "1:r0=0 1:r1=1 w=2 x=0 z=3"},
		wantedWalk{rowOfStores, []int{0, 0, 0, 0, 0, 1, 1, 0}, "1:r0=2 1:r1=1 w=2 x=0 z=3"},
		wantedWalk{rowOfStores, []int{0, 0, 0, 0, 0, 0, 0, 0}, "1:r0=2 1:r1=3 w=2 x=0 z=3"},
	)
	// By PSO the flushes are w's and z's; of z the first store goes first.
	checkWaiting(t, []int{api.PSO},
		wantedWalk{rowOfStores, []int{0, 0, 0, 0, 1, 1, 0, 0}, "1:r0=2 1:r1=0 w=2 x=0 z=3"},
		wantedWalk{rowOfStores, []int{0, 0, 0, 1, 2, 2, 0, 0}, "1:r0=0 1:r1=1 w=2 x=0 z=3"},
		wantedWalk{rowOfStores, []int{0, 0, 0, 1, 1, 1, 1, 0}, "1:r0=0 1:r1=3 w=2 x=0 z=3"},
		wantedWalk{rowOfStores, []int{0, 0, 0, 1, 0, 1, 1, 0}, "1:r0=2 1:r1=1 w=2 x=0 z=3"},
	)
}

func TestWalkFlushesInThePlacesOrder(t *testing.T) {
	// All four wait; the pick tells which one the other thread sees.
	const all = "thread z := 1; y := 1; x := 1; w := 1; fence; thread r0 := w; r1 := x; r2 := y; r3 := z; exists w = 0"
	for pick, seen := range []string{"1:r0=1 1:r1=0 1:r2=0 1:r3=0", "1:r0=0 1:r1=1 1:r2=0 1:r3=0", "1:r0=0 1:r1=0 1:r2=1 1:r3=0", "1:r0=0 1:r1=0 1:r2=0 1:r3=1"} {
		picks := []int{0, 0, 0, 0, pick, 3, 3, 3, 3, 0, 0, 0, 0}
		checkWaiting(t, []int{api.PSO}, wantedWalk{all, picks, seen + " w=1 x=1 y=1 z=1"})
	}
	// A thread's step comes ahead of its flushes, and these ahead of the next thread's.
	const both = "thread y := 1; x := 1; r0 := y; thread y := 2; w := 2; exists w = 0"
	checkWaiting(t, []int{api.PSO},
		wantedWalk{both, []int{0, 0, 3, 3, 0, 1, 0, 0, 0}, "0:r0=1 w=2 x=1 y=2"},
		wantedWalk{both, []int{0, 0, 3, 3, 0, 3, 1, 0, 0}, "0:r0=1 w=2 x=1 y=1"},
		wantedWalk{both, []int{0, 0, 3, 3, 2, 3, 0, 0, 0}, "0:r0=2 w=2 x=1 y=2"},
		wantedWalk{both, []int{0, 0, 3, 3, 4, 2, 0, 0, 0}, "0:r0=1 w=2 x=1 y=1"},
	)
}

func TestWalkFullBuffers(t *testing.T) {
	thread := "thread w := 1; x := 2; y := 3; z := 4; w := 5; x := 6; y := 7; z := 8; "
	for threads := 1; threads <= api.MaxThreads; threads++ {
		text := strings.Repeat(thread, threads) + "exists w = 0"
		picks := make([]int, 2*threads*api.MaxSteps)
		checkWaiting(t, []int{api.TSO, api.PSO}, wantedWalk{text, picks, "w=5 x=6 y=7 z=8"})
		checkWaiting(t, []int{api.SC}, wantedWalk{text, picks[:len(picks)/2], "w=5 x=6 y=7 z=8"})
	}
	// All eight wait when the other thread loads; by PSO all but the first one to z.
	heard := thread + "thread r0 := z; exists w = 0"
	checkWaiting(t, []int{api.TSO}, wantedWalk{heard, append(make([]int, 8), 1, 0, 0, 0, 0, 0, 0, 0, 0), "1:r0=0 w=5 x=6 y=7 z=8"})
	checkWaiting(t, []int{api.PSO}, wantedWalk{heard, append(make([]int, 8), 3, 4, 0, 0, 0, 0, 0, 0, 0), "1:r0=4 w=5 x=6 y=7 z=8"})
	// Stored in one row or flushed between: what comes last to memory stays.
	text := "thread x := 1; x := 2; x := 3; x := 4; x := 5; x := 6; x := 7; x := 8; exists x = 0"
	for _, picks := range [][]int{make([]int, 16), {0, 1, 0, 1, 0, 1, 0, 1, 0, 1, 0, 1, 0, 1, 0, 0}} {
		checkWaiting(t, []int{api.TSO, api.PSO}, wantedWalk{text, picks, "x=8"})
	}
}

// outcomesOf collects what all walks come to that picks less than most tell.
func outcomesOf(t *testing.T, text string, model, most int) []string {
	t.Helper()
	test, errno, _ := Load(text)
	if errno != api.OK {
		t.Fatalf("P3: Load(%q) = %d", text, errno)
	}
	var outcomes []string
	var walkOn func(picks []int)
	walkOn = func(picks []int) {
		outcome, errno := test.Walk(model, picks)
		if errno == api.OK {
			outcomes = append(outcomes, outcome)
			return
		}
		for pick := range most {
			walkOn(append(picks, pick))
		}
	}
	walkOn(nil)
	slices.Sort(outcomes)
	return slices.Compact(outcomes)
}

func TestWalksOfTheExamples(t *testing.T) {
	fenced := strings.ReplaceAll(storeBuffering, "1; r0", "1; fence; r0")
	strong := []string{"0:r0=0 1:r0=1 x=1 y=1", "0:r0=1 1:r0=0 x=1 y=1", "0:r0=1 1:r0=1 x=1 y=1"}
	weak := append([]string{"0:r0=0 1:r0=0 x=1 y=1"}, strong...)
	inOrder := []string{"1:r0=0 1:r1=0 x=1 y=1", "1:r0=0 1:r1=1 x=1 y=1", "1:r0=1 1:r1=1 x=1 y=1"}
	swapped := append(slices.Clone(inOrder[:2]), "1:r0=1 1:r1=0 x=1 y=1", inOrder[2])
	for _, c := range []struct {
		text string
		want [3][]string
	}{
		{storeBuffering, [3][]string{strong, weak, weak}},
		{fenced, [3][]string{strong, strong, strong}},
		{messagePassing, [3][]string{inOrder, inOrder, swapped}},
	} {
		for i, model := range []int{api.SC, api.TSO, api.PSO} {
			if got := outcomesOf(t, c.text, model, 4); !slices.Equal(got, c.want[i]) {
				t.Errorf("P5: the walks of %q by model %d come to %q, want %q", c.text, model, got, c.want[i])
			}
		}
	}
}
