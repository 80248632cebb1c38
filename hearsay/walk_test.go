package hearsay

import (
	"math"
	"math/rand"
	"slices"
	"strconv"
	"strings"
	"sync"
	"testing"

	"hearsay/api"
)

const (
	storeBuffering = "thread x := 1; r0 := y; thread y := 1; r0 := x; exists 0:r0 = 0 and 1:r0 = 0"
	threeStores    = "thread x := 1; thread x := 2; thread x := 3; exists x = 0"
)

func checkWalk(t *testing.T, text string, model int, picks []int, want string, wanted api.Errno) {
	t.Helper()
	test, errno, at := Load(text)
	if errno != api.OK {
		t.Errorf("P3: Load(%q) = %d, %d", text, errno, at)
		return
	}
	if got, errno := test.Walk(model, picks); got != want || errno != wanted {
		t.Errorf("P5: Walk(%d, %v) of %q = %q, %d, want %q, %d", model, picks, text, got, errno, want, wanted)
	}
}

// checkWalks is for tests of one thread: there is one way only.
func checkWalks(t *testing.T, cases ...[2]string) {
	t.Helper()
	for _, c := range cases {
		checkWalk(t, c[0], api.SC, make([]int, api.MaxSteps), c[1], api.OK)
	}
}

func TestWalkEveryKindOfStep(t *testing.T) {
	checkWalks(t,
		[2]string{"thread x := 7; exists x = 0", "x=7"},
		[2]string{"thread x := 7; x := 0; exists x = 0", "x=0"},
		[2]string{"thread r2 := 6; z := r2; exists z = 0", "0:r2=6 z=6"},
		[2]string{"thread z := r2; exists z = 0", "z=0"},
		[2]string{"thread y := 5; r1 := y; exists y = 0", "0:r1=5 y=5"},
		[2]string{"thread r1 := 4; r1 := y; exists y = 0", "0:r1=0 y=0"},
		[2]string{"thread r3 := 9; exists 0:r3 = 9", "0:r3=9"},
		[2]string{"thread w := 3; r0 := swap w 8; exists w = 0", "0:r0=3 w=8"},
		[2]string{"thread r0 := 5; r0 := swap w 8; r1 := swap w 1; exists w = 0", "0:r0=0 0:r1=8 w=1"},
		[2]string{"thread fence; exists 0:r0 = 0", ""},
		[2]string{"thread x := 1; fence; r0 := x; exists 0:r0 = 0", "0:r0=1 x=1"},
	)
}

func TestWalkSkips(t *testing.T) {
	checkWalks(t,
		[2]string{"thread if r0 = 0 skip 0; x := 1; exists x = 0", "x=1"},
		[2]string{"thread if r0 = 0 skip 1; x := 1; y := 1; exists x = 0", "x=0 y=1"},
		[2]string{"thread if r0 = 1 skip 1; x := 1; y := 1; exists x = 0", "x=1 y=1"},
		[2]string{"thread r3 := 2; if r3 = 2 skip 2; x := 1; y := 1; z := 1; exists x = 0", "0:r3=2 x=0 y=0 z=1"},
		[2]string{"thread r3 := 2; if r3 = 0 skip 2; x := 1; y := 1; z := 1; exists x = 0", "0:r3=2 x=1 y=1 z=1"},
		[2]string{"thread r3 := 2; if r2 = 2 skip 1; x := 1; exists x = 0", "0:r3=2 x=1"},
		[2]string{"thread if r0 = 0 skip 1; if r0 = 0 skip 1; x := 1; exists x = 0", "x=1"},
		[2]string{"thread if r0 = 0 skip 0; exists x = 0", "x=0"},
		[2]string{"thread if r0 = 0 skip 7; w := 1; x := 1; y := 1; z := 1; r0 := 1; r1 := 1; r2 := 1; exists x = 0",
			"0:r0=0 0:r1=0 0:r2=0 w=0 x=0 y=0 z=0"},
	)
	// A thread that has passed over its last step has no more moves.
	checkWalk(t, "thread if r0 = 0 skip 1; x := 1; exists x = 0", api.SC, []int{0}, "x=0", api.OK)
	checkWalk(t, "thread if r0 = 1 skip 1; x := 1; exists x = 0", api.SC, []int{0}, "", api.ErrPicks)
	checkWalk(t, "thread if r0 = 0 skip 1; x := 1; thread y := 1; exists x = 0", api.SC, []int{0, 0}, "x=0 y=1", api.OK)
}

func TestWalkThreadsShareThePlacesAlone(t *testing.T) {
	const apart = "thread r0 := 1; x := r0; thread r1 := x; y := r0; exists x = 0"
	checkWalk(t, apart, api.SC, []int{0, 0, 0, 0}, "0:r0=1 1:r1=1 x=1 y=0", api.OK)
	checkWalk(t, apart, api.SC, []int{1, 1, 0, 0}, "0:r0=1 1:r1=0 x=1 y=0", api.OK)
	const four = "thread w := 1; thread x := 2; r0 := w; thread r0 := x; y := r0; thread r3 := y; z := r3; exists z = 2"
	checkWalk(t, four, api.SC, []int{0, 0, 0, 0, 0, 0, 0}, "1:r0=1 2:r0=2 3:r3=2 w=1 x=2 y=2 z=2", api.OK)
	checkWalk(t, four, api.SC, []int{3, 3, 2, 2, 1, 1, 0}, "1:r0=0 2:r0=0 3:r3=0 w=1 x=2 y=0 z=0", api.OK)
}

func TestWalkOutcomeWords(t *testing.T) {
	checkWalks(t,
		// A register that is only asked, stored or named by the formula is not told.
		[2]string{"thread x := r1; if r2 = 1 skip 0; exists 0:r3 = 0", "x=0"},
		// One that a step sets is told though the step is passed over, and once.
		[2]string{"thread if r0 = 0 skip 3; r1 := 1; r1 := x; r1 := swap y 1; exists z = 0", "0:r1=0 x=0 y=0 z=0"},
		[2]string{"thread r3 := 3; r1 := 1; r0 := 0; r2 := 2; exists 0:r0 = 0", "0:r0=0 0:r1=1 0:r2=2 0:r3=3"},
		[2]string{"thread z := 4; y := 3; x := 2; w := 1; exists 0:r0 = 0", "w=1 x=2 y=3 z=4"},
		// A digit, a thread's number and a register's name no place.
		[2]string{"thread r0 := 0; exists 0:r1 = 2 or not (0:r3 = 3)", "0:r0=0"},
		[2]string{"thread fence; exists not (z = 1 and (0:r0 = 0 or not w = 2)) or y = 0", "w=0 y=0 z=0"},
		[2]string{"thread fence; forall x = 1", "x=0"},
	)
	const far = "thread fence; thread r1 := 1; thread y := r0; thread r1 := y; r0 := 2; forall w = 0 and w = 1"
	checkWalk(t, far, api.SC, make([]int, 8), "1:r1=1 3:r0=2 3:r1=0 w=0 y=0", api.OK)
}

func TestWalkModels(t *testing.T) {
	for _, model := range []int{0, 4, -1, -2, 5, 256 + api.SC, math.MaxInt, math.MinInt} {
		checkWalk(t, storeBuffering, model, []int{0, 0, 0, 0}, "", api.ErrModel)
		checkWalk(t, storeBuffering, model, []int{0}, "", api.ErrModel)
		checkWalk(t, storeBuffering, model, nil, "", api.ErrModel)
	}
	for _, model := range []int{api.SC, api.TSO, api.PSO} {
		checkWalk(t, storeBuffering, model, nil, "", api.ErrPicks)
	}
}

func TestWalkNumberOfPicks(t *testing.T) {
	for _, text := range append(rightTests(), storeBuffering) {
		checkWalk(t, text, api.SC, nil, "", api.ErrPicks)
		checkWalk(t, text, api.SC, []int{}, "", api.ErrPicks)
	}
	picks := []int{1, 0, 1, 0, 1, 0, 1, 0}
	for n := range picks {
		if n < 4 {
			checkWalk(t, storeBuffering, api.SC, picks[:n], "", api.ErrPicks)
		} else {
			checkWalk(t, storeBuffering, api.SC, picks[:n], "0:r0=1 1:r0=1 x=1 y=1", api.OK)
		}
	}
	checkWalk(t, storeBuffering, api.SC, make([]int, 1<<16), "0:r0=0 1:r0=1 x=1 y=1", api.OK)
}

func TestWalkPicks(t *testing.T) {
	// The last one to store is seen; of three threads the pick leaves two.
	for _, c := range []struct {
		picks []int
		want  string
	}{
		{[]int{0, 0, 0}, "x=3"}, {[]int{2, 1, 0}, "x=1"}, {[]int{0, 1, 0}, "x=2"}, {[]int{1, 1, 7}, "x=1"},
		{[]int{3, 0, 0}, "x=3"}, {[]int{4, 1, 0}, "x=1"}, {[]int{5, 0, 0}, "x=2"}, {[]int{5, 3, 0}, "x=1"},
		{[]int{-1, 1, 0}, "x=1"}, {[]int{-2, 0, 0}, "x=2"}, {[]int{-3, 0, 0}, "x=3"}, {[]int{-4, 1, 0}, "x=1"}, {[]int{-5, -2, -9}, "x=2"},
		{[]int{math.MaxInt, 1, 0}, "x=1"}, {[]int{math.MaxInt - 1, 0, 0}, "x=3"}, {[]int{math.MaxInt - 2, 0, 0}, "x=2"},
		{[]int{math.MinInt, 0, 0}, "x=3"}, {[]int{math.MinInt, math.MinInt, math.MinInt}, "x=3"}, {[]int{math.MinInt, 1, math.MinInt}, "x=2"},
		{[]int{math.MinInt + 1, 1, 0}, "x=1"}, {[]int{math.MinInt + 2, 0, 0}, "x=3"}, {[]int{math.MinInt + 3, 0, 0}, "x=2"},
	} {
		checkWalk(t, threeStores, api.SC, c.picks, c.want, api.OK)
	}
}

func TestWalkEveryWay(t *testing.T) {
	outcomes := map[string]int{}
	for n := range 16 {
		picks := []int{n & 1, n >> 1 & 1, n >> 2 & 1, n >> 3 & 1}
		test, _, _ := Load(storeBuffering)
		outcome, errno := test.Walk(api.SC, picks)
		if errno != api.OK {
			t.Errorf("P5: Walk by %v = %d", picks, errno)
		}
		outcomes[outcome]++
	}
	for _, want := range []string{"0:r0=0 1:r0=1 x=1 y=1", "0:r0=1 1:r0=0 x=1 y=1", "0:r0=1 1:r0=1 x=1 y=1"} {
		if outcomes[want] == 0 {
			t.Errorf("P5: no walk comes to %q", want)
		}
	}
	if len(outcomes) != 3 {
		t.Errorf("P5: the walks come to %v", outcomes)
	}
}

// anyStep makes a step with so many steps behind it; small digits, so that what
// is asked is often so.
func anyStep(source *rand.Rand, behind int) string {
	place, register := string("wxyz"[source.Intn(4)]), "r"+strconv.Itoa(source.Intn(4))
	digit := strconv.Itoa(source.Intn(3))
	switch source.Intn(8) {
	case 0:
		return "fence"
	case 1:
		return register + ":=swap " + place + " " + digit
	case 2:
		return "if " + register + "=" + digit + " skip " + strconv.Itoa(source.Intn(behind+1))
	case 3:
		return register + ":=" + digit
	case 4:
		return place + ":=" + digit
	case 5:
		return place + ":=" + register
	}
	return register + ":=" + place
}

func anyTest(source *rand.Rand) string {
	text := ""
	for range 1 + source.Intn(api.MaxThreads) {
		text += "thread "
		for behind := source.Intn(api.MaxSteps); behind >= 0; behind-- {
			text += anyStep(source, behind) + ";"
		}
	}
	question := []string{"exists x=0", "forall 0:r0=1", "exists not(y=1 or 0:r3=2)and w=0", "forall(z=9)"}
	return text + question[source.Intn(len(question))]
}

func anyPick(source *rand.Rand) int {
	switch source.Intn(10) {
	case 0:
		return math.MinInt + source.Intn(3)
	case 1:
		return math.MaxInt - source.Intn(3)
	case 2, 3:
		return int(source.Uint64())
	}
	return source.Intn(13) - 6
}

// manyPicks is as many as a walk can need: each step, and the flush of its store.
const manyPicks = 2 * api.MaxThreads * api.MaxSteps

func TestWalkAgainstRunner(t *testing.T) {
	source := rand.New(rand.NewSource(5))
	for range 3000 {
		text := anyTest(source)
		if len(text) > api.MaxTest {
			continue
		}
		script := scriptOf(text)
		for n := range 9 {
			model, picks := api.SC+n%3, make([]int, manyPicks)
			for i := range picks {
				picks[i] = anyPick(source)
			}
			want, _, used := script.walked(model, picks)
			checkWalk(t, text, model, picks, want, api.OK)
			checkWalk(t, text, model, picks[:used], want, api.OK)
			checkWalk(t, text, model, picks[:used-1], "", api.ErrPicks)
			checkWalk(t, text, model, picks[:source.Intn(used)], "", api.ErrPicks)
		}
	}
}

func TestWalkOfGrownTexts(t *testing.T) {
	source := rand.New(rand.NewSource(6))
	right := 0
	for range 3000 {
		text := grown(source)
		if errno, _ := judged(text); errno != api.OK {
			continue
		}
		right++
		script, picks := scriptOf(text), source.Perm(manyPicks)
		for _, model := range []int{api.SC, api.TSO, api.PSO} {
			want, _, _ := script.walked(model, picks)
			checkWalk(t, text, model, picks, want, api.OK)
		}
	}
	if right < 100 {
		t.Errorf("only %d of the grown texts are right", right)
	}
}

func TestWalkDoesNotWriteIntoPicks(t *testing.T) {
	test, _, _ := Load(storeBuffering)
	all := []int{-7, math.MinInt, 9, -1, 3, 2, 1, -4, 8, 6}
	kept := slices.Clone(all)
	for from := range all {
		for to := from; to <= len(all); to++ {
			for _, model := range []int{0, api.SC, api.TSO, api.PSO} {
				test.Walk(model, all[from:to])
			}
		}
	}
	if !slices.Equal(all, kept) {
		t.Errorf("P2: the picks were %v and are %v", kept, all)
	}
}

func TestWalkOfNoTest(t *testing.T) {
	var none *Test
	for _, test := range []*Test{none, new(Test)} {
		if got, errno := test.Walk(4, nil); got != "" || errno != api.ErrModel {
			t.Errorf("P1: Walk(4, none) of no test = %q, %d", got, errno)
		}
		if got, _ := test.Walk(api.SC, []int{0}); got != "" {
			t.Errorf("P1: Walk of no test = %q", got)
		}
	}
}

func TestWalkHangsOnNoEarlierWalk(t *testing.T) {
	test, _, _ := Load(storeBuffering)
	script := scriptOf(storeBuffering)
	for range 3 {
		for n := range 64 {
			model := api.SC + n%3
			picks := []int{n & 1, n >> 1 & 1, n >> 2 & 1, n >> 3 & 1, n >> 4 & 1, n >> 5 & 1}
			want, _, _ := script.walked(model, picks)
			if got, errno := test.Walk(model, picks); got != want || errno != api.OK {
				t.Errorf("P1: Walk(%d, %v) = %q, %d, want %q", model, picks, got, errno, want)
			}
			test.Walk(api.PSO, picks[:n%6])
			test.Walk(-n, picks)
		}
	}
	if got := test.Print(); got != printed(storeBuffering) {
		t.Errorf("P1: Print behind the walks = %q", got)
	}
}

func TestWalksAtATime(t *testing.T) {
	test, _, _ := Load(threeStores)
	cases := []struct {
		model int
		picks []int
		want  string
	}{
		{api.SC, []int{0, 0, 0}, "x=3"}, {api.SC, []int{2, 1, 0}, "x=1"}, {api.SC, []int{0, 1}, ""},
		{api.TSO, []int{0, 1, 2, 2, 1, 0}, "x=1"}, {api.TSO, []int{0, 1, 2, 0, 0, 0}, "x=3"},
		{api.PSO, []int{0, 1, 2, 2, 0, 0}, "x=2"}, {api.PSO, []int{0, 1, 2, 2, 0}, ""},
	}
	var group sync.WaitGroup
	for i := range 3 * len(cases) {
		c := cases[i%len(cases)]
		group.Go(func() {
			for range 200 {
				if got, _ := test.Walk(c.model, c.picks); got != c.want {
					t.Errorf("P2: Walk(%d, %v) = %q, want %q", c.model, c.picks, got, c.want)
				}
			}
		})
	}
	group.Wait()
	if got := test.Print(); strings.Count(got, "thread") != 3 {
		t.Errorf("P2: Print behind the walks = %q", got)
	}
}
