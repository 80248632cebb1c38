package hearsay

import (
	"math"
	"math/rand"
	"reflect"
	"runtime"
	"slices"
	"strconv"
	"strings"
	"sync"
	"testing"

	"hearsay/api"
)

var models = []int{api.SC, api.TSO, api.PSO}

func loaded(t *testing.T, text string) *Test {
	t.Helper()
	test, errno, at := Load(text)
	if errno != api.OK {
		t.Fatalf("P3: Load(%q) = %d, %d", text, errno, at)
	}
	return test
}

func alike(a, b api.Report) bool {
	return slices.Equal(a.Outcomes, b.Outcomes) && a.States == b.States && a.Holds == b.Holds
}

func checkExplore(t *testing.T, text string, model, workers, limit int, want api.Report, wanted api.Errno) {
	t.Helper()
	got, errno := loaded(t, text).Explore(model, workers, limit)
	if errno != wanted || !alike(got, want) {
		t.Errorf("P6: Explore(%d, %d, %d) of %q = %+v, %d, want %+v, %d", model, workers, limit, text, got, errno, want, wanted)
	}
}

func TestExploreExamples(t *testing.T) {
	fenced := strings.ReplaceAll(storeBuffering, "1; r0", "1; fence; r0")
	strong := []string{"0:r0=0 1:r0=1 x=1 y=1", "0:r0=1 1:r0=0 x=1 y=1", "0:r0=1 1:r0=1 x=1 y=1"}
	weak := append([]string{"0:r0=0 1:r0=0 x=1 y=1"}, strong...)
	inOrder := []string{"1:r0=0 1:r1=0 x=1 y=1", "1:r0=0 1:r1=1 x=1 y=1", "1:r0=1 1:r1=1 x=1 y=1"}
	swapped := append(slices.Clone(inOrder[:2]), "1:r0=1 1:r1=0 x=1 y=1", inOrder[2])
	one := []string{"0:r0=0 x=2"}
	for _, c := range []struct {
		text     string
		outcomes [3][]string
		holds    [3]bool
	}{
		{storeBuffering, [3][]string{strong, weak, weak}, [3]bool{false, true, true}},
		{fenced, [3][]string{strong, strong, strong}, [3]bool{false, false, false}},
		{messagePassing, [3][]string{inOrder, inOrder, swapped}, [3]bool{false, false, true}},
		{"thread r0 := swap x 2; exists x = 2", [3][]string{one, one, one}, [3]bool{true, true, true}},
	} {
		for i, model := range models {
			got, errno := loaded(t, c.text).Explore(model, 3, api.MaxStates)
			if errno != api.OK || !slices.Equal(got.Outcomes, c.outcomes[i]) || got.Holds != c.holds[i] {
				t.Errorf("P6: Explore(%d) of %q = %+v, %d, want %q, %v", model, c.text, got, errno, c.outcomes[i], c.holds[i])
			}
		}
	}
}

// checkStates is by SC, TSO and PSO.
func checkStates(t *testing.T, text string, want ...int) {
	t.Helper()
	for i, model := range models {
		got, errno := loaded(t, text).Explore(model, 2, api.MaxStates)
		if errno != api.OK || got.States != want[i] {
			t.Errorf("P6: Explore(%d) of %q tells %d states, %d, want %d", model, text, got.States, errno, want[i])
		}
		checkExplore(t, text, model, 2, want[i], got, api.OK)
		checkExplore(t, text, model, 2, want[i]-1, api.Report{}, api.ErrLimit)
	}
}

func TestExploreCountsStates(t *testing.T) {
	checkStates(t, "thread fence; exists x = 0", 2, 2, 2)
	checkStates(t, "thread r0 := swap x 2; exists x = 2", 2, 2, 2)
	checkStates(t, "thread fence; thread fence; thread fence; thread fence; exists x = 0", 16, 16, 16)
	checkStates(t, "thread if r0 = 0 skip 1; fence; fence; exists x = 0", 3, 3, 3)
	checkStates(t, "thread if r0 = 1 skip 1; fence; fence; exists x = 0", 4, 4, 4)
	// Ahead of it, waiting, in memory: though a 0 that comes there changes no place.
	checkStates(t, "thread x := 1; exists x = 0", 2, 3, 3)
	checkStates(t, "thread x := 0; exists x = 0", 2, 3, 3)
	checkStates(t, "thread x := 1; x := 1; exists x = 0", 3, 6, 6)
	checkStates(t, "thread x := 1; y := 1; exists x = 0", 3, 6, 7)
	checkStates(t, "thread x := 1; fence; y := 1; exists x = 0", 4, 6, 6)
	// Ways that come to one state count it once, ways to different registers do not.
	checkStates(t, "thread x := 1; thread x := 1; exists x = 0", 4, 9, 9)
	checkStates(t, "thread x := 1; thread x := 2; exists x = 0", 5, 10, 10)
	checkStates(t, "thread x := 1; thread r0 := x; exists x = 0", 5, 7, 7)
	checkStates(t, storeBuffering, 13, 34, 34)
}

func TestExploreKeepsTheOrderOfWaitingStores(t *testing.T) {
	// What the second thread stores leads the first one to store x and z in one order
	// or in the other, and at last to the same step with the same registers.
	const crossed = "thread r0 := w; if r0 = 0 skip 3; x := 1; z := 1; if r0 = 1 skip 2; z := 1; x := 1; r0 := 0; thread w := 1; exists x = 0"
	for _, model := range models {
		want, errno := surveyed(crossed, model, api.MaxStates)
		checkExplore(t, crossed, model, 4, api.MaxStates, want, errno)
	}
}

func TestExploreArguments(t *testing.T) {
	const least, greatest = math.MinInt, math.MaxInt
	for _, c := range []struct {
		model, workers, limit int
		want                  api.Errno
	}{
		{0, 1, 1000, api.ErrModel}, {4, 0, 0, api.ErrModel}, {-1, 65, 20001, api.ErrModel}, {least, least, least, api.ErrModel},
		{greatest, 1, 1, api.ErrModel}, {256 + api.SC, 1, 1000, api.ErrModel},
		{api.SC, 0, 5, api.ErrArg}, {api.SC, -1, 1000, api.ErrArg}, {api.SC, 65, 1000, api.ErrArg}, {api.SC, 256 + 1, 1000, api.ErrArg},
		{api.TSO, least, 1000, api.ErrArg}, {api.TSO, greatest, 1000, api.ErrArg}, {api.TSO, 0, 1, api.ErrArg},
		{api.PSO, 1, 0, api.ErrArg}, {api.PSO, 1, -1, api.ErrArg}, {api.PSO, 1, 20001, api.ErrArg}, {api.PSO, 64, least, api.ErrArg},
		{api.PSO, 1, greatest, api.ErrArg}, {api.PSO, 0, 0, api.ErrArg}, {api.PSO, 1, 65536 + 1000, api.ErrArg},
		{api.SC, 1, 1, api.ErrLimit}, {api.TSO, 64, 1, api.ErrLimit}, {api.PSO, 64, 12, api.ErrLimit},
		{api.SC, 1, 20000, api.OK}, {api.TSO, 64, 20000, api.OK}, {api.PSO, 64, 1000, api.OK}, {api.SC, 1, 13, api.OK},
	} {
		want := api.Report{}
		if c.want == api.OK {
			want, _ = surveyed(storeBuffering, c.model, api.MaxStates)
		}
		checkExplore(t, storeBuffering, c.model, c.workers, c.limit, want, c.want)
	}
	for _, text := range rightTests() {
		for _, model := range models {
			checkExplore(t, text, model, 1, 1, api.Report{}, api.ErrLimit)
		}
	}
}

// mostStates has, by TSO, 20 states of its first thread, 20 of the second, 10 of
// the third and 5 of the last, and the threads have nothing in common.
const mostStates = "thread w:=1;w:=1;w:=1;w:=1;r0:=0; thread x:=1;x:=1;x:=1;x:=1;r0:=0; thread y:=1;y:=1;y:=1; thread fence;fence;fence;fence; forall w=1 and x=1 and y=1"

func TestExploreAsManyStatesAsMayBe(t *testing.T) {
	outcomes := []string{"0:r0=0 1:r0=0 w=1 x=1 y=1"}
	for _, workers := range []int{1, 2, 5, 64} {
		checkExplore(t, mostStates, api.TSO, workers, api.MaxStates, api.Report{Outcomes: outcomes, States: 20000, Holds: true}, api.OK)
		checkExplore(t, mostStates, api.TSO, workers, api.MaxStates-1, api.Report{}, api.ErrLimit)
		checkExplore(t, strings.Replace(mostStates, "fence;", "fence;fence;", 1), api.TSO, workers, api.MaxStates, api.Report{}, api.ErrLimit)
	}
}

func TestExploreEndsAtTheGreatestTests(t *testing.T) {
	// By PSO far too many states to go through; by SC, with fences, 9 of each thread.
	stores := strings.Repeat("thread w:=1;x:=2;y:=3;z:=4;w:=5;x:=6;y:=7;z:=8;", api.MaxThreads) + "exists x = 0"
	fences := strings.Repeat("thread "+strings.Repeat("fence;", api.MaxSteps), api.MaxThreads) + "exists x = 1"
	for _, workers := range []int{1, 64} {
		checkExplore(t, stores, api.TSO, workers, api.MaxStates, api.Report{}, api.ErrLimit)
		checkExplore(t, stores, api.PSO, workers, api.MaxStates, api.Report{}, api.ErrLimit)
		for _, model := range models {
			checkExplore(t, fences, model, workers, api.MaxStates, api.Report{Outcomes: []string{"x=0"}, States: 9 * 9 * 9 * 9}, api.OK)
		}
	}
}

func TestExploreFormulas(t *testing.T) {
	for _, c := range []struct {
		formula string
		want    bool
	}{
		{"x = 1", true}, {"x = 2", false}, {"0:r1 = 2", true}, {"0:r1 = 1", false}, {"0:r2 = 1", false},
		// What nothing stores into or sets is 0.
		{"w = 0", true}, {"z = 1", false}, {"1:r1 = 0", true}, {"1:r1 = 2", false}, {"0:r3 = 0", true},
		{"not x = 1", false}, {"not x = 0", true}, {"not not x = 1", true}, {"not not not x = 1", false}, {"not (not (x = 1))", true},
		{"x = 1 and y = 3", true}, {"x = 1 and y = 0", false}, {"x = 0 and y = 3", false}, {"x = 0 and y = 0", false},
		{"x = 1 or y = 0", true}, {"x = 0 or y = 3", true}, {"x = 0 or y = 0", false}, {"x = 0 or y = 0 or w = 0", true},
		{"x = 1 and y = 3 and w = 1", false}, {"x = 1 and y = 3 and w = 0", true},
		// The weakest is or, the next and.
		{"x = 1 or y = 3 and w = 1", true}, {"(x = 1 or y = 3) and w = 1", false}, {"w = 1 and x = 1 or y = 3", true}, {"w = 1 and (x = 1 or y = 3)", false},
		{"not x = 0 and w = 1", false}, {"not (x = 0 and w = 1)", true}, {"not x = 1 or y = 3", true}, {"not (x = 1 or y = 3)", false},
		{"not x = 1 and y = 0 or not w = 1", true}, {"((x = 0 or (0:r1 = 2))) and not (z = 1)", true},
	} {
		const steps = "thread x := 1; r1 := 2; y := 3; thread fence; "
		for _, question := range []string{"exists ", "forall "} {
			got, errno := loaded(t, steps+question+c.formula).Explore(api.SC, 1, 100)
			if errno != api.OK || got.Holds != c.want {
				t.Errorf("P6: %s%s: %v, %d, want %v", question, c.formula, got.Holds, errno, c.want)
			}
		}
	}
}

func TestExploreQuestions(t *testing.T) {
	// At the end x is 1, 2 or 3.
	steps, _, _ := strings.Cut(threeStores, "exists")
	for _, c := range []struct {
		formula      string
		exists, each bool
	}{
		{"x = 1", true, false}, {"x = 2", true, false}, {"x = 3", true, false}, {"x = 0", false, false}, {"not x = 0", true, true},
		{"not x = 2", true, false}, {"x = 1 or x = 2 or x = 3", true, true}, {"x = 1 or x = 3", true, false}, {"x = 1 and x = 2", false, false},
	} {
		for _, model := range models {
			some, _ := loaded(t, steps+"exists "+c.formula).Explore(model, 2, api.MaxStates)
			all, _ := loaded(t, steps+"forall "+c.formula).Explore(model, 2, api.MaxStates)
			if some.Holds != c.exists || all.Holds != c.each {
				t.Errorf("P6: %s by model %d: exists %v, forall %v, want %v, %v", c.formula, model, some.Holds, all.Holds, c.exists, c.each)
			}
			if want := []string{"x=1", "x=2", "x=3"}; !slices.Equal(some.Outcomes, want) || !slices.Equal(all.Outcomes, want) {
				t.Errorf("P6: the outcomes are %q and %q, want %q", some.Outcomes, all.Outcomes, want)
			}
		}
	}
	checkExplore(t, "thread fence; exists 0:r0 = 1", api.SC, 1, 2, api.Report{Outcomes: []string{""}, States: 2}, api.OK)
	checkExplore(t, "thread fence; forall 0:r0 = 0", api.SC, 1, 2, api.Report{Outcomes: []string{""}, States: 2, Holds: true}, api.OK)
}

// smallTest makes a test whose states are mostly few enough to go through twice.
func smallTest(source *rand.Rand) string {
	text := ""
	for range 1 + source.Intn(4) {
		text += "thread "
		for behind := source.Intn(4); behind >= 0; behind-- {
			text += sharingStep(source, behind) + ";"
		}
	}
	return text + anyQuestion(source)
}

// sharingStep makes mostly stores and loads of two places, so that threads often
// hear of one another.
func sharingStep(source *rand.Rand, behind int) string {
	place := string("xy"[source.Intn(2)])
	switch source.Intn(6) {
	case 0, 1:
		return place + ":=" + strconv.Itoa(1+source.Intn(2))
	case 2, 3:
		return "r" + strconv.Itoa(source.Intn(2)) + ":=" + place
	}
	return anyStep(source, behind)
}

func anyQuestion(source *rand.Rand) string {
	atoms := []string{"x=0", "y=1", "z=2", "w=0", "0:r0=0", "0:r1=1", "0:r2=0", "0:r3=2"}
	between := []string{" or ", " and ", " and not ", " or not not "}
	text := []string{"exists ", "forall ", "exists not ", "forall not "}[source.Intn(4)]
	open := false
	for range source.Intn(4) {
		if !open && source.Intn(2) == 0 {
			text += "("
			open = true
		}
		text += atoms[source.Intn(len(atoms))]
		if open && source.Intn(2) == 0 {
			text += ")"
			open = false
		}
		text += between[source.Intn(len(between))]
	}
	text += atoms[source.Intn(len(atoms))]
	if open {
		text += ")"
	}
	return text
}

func TestExploreAgainstSurvey(t *testing.T) {
	source := rand.New(rand.NewSource(7))
	told := map[api.Errno]int{}
	held := map[bool]int{}
	for range 150 {
		text := smallTest(source)
		for _, model := range models {
			want, errno := surveyed(text, model, 1200)
			checkExplore(t, text, model, 1+source.Intn(8), 1200, want, errno)
			told[errno]++
			held[want.Holds]++
			if errno != api.OK {
				continue
			}
			checkExplore(t, text, model, 1+source.Intn(64), want.States, want, api.OK)
			checkExplore(t, text, model, 1+source.Intn(64), want.States-1, api.Report{}, api.ErrLimit)
		}
	}
	if told[api.OK] < 100 || told[api.ErrLimit] < 20 || held[true] < 100 || held[false] < 100 {
		t.Errorf("too few of one sort: %v, %v", told, held)
	}
}

func TestReportsAreTheSameForAnyWorkers(t *testing.T) {
	source := rand.New(rand.NewSource(8))
	for range 12 {
		test := loaded(t, smallTest(source))
		for _, model := range models {
			for _, limit := range []int{50, api.MaxStates} {
				want, errno := test.Explore(model, 1, limit)
				for workers := 1; workers <= api.MaxWorkers; workers++ {
					got, again := test.Explore(model, workers, limit)
					if again != errno || !alike(got, want) {
						t.Errorf("P7: Explore(%d, %d, %d) of %q = %+v, %d, by one worker %+v, %d", model, workers, limit, test.Print(), got, again, want, errno)
					}
				}
			}
		}
	}
}

func isPartOf(some, all []string) bool {
	return !slices.ContainsFunc(some, func(s string) bool { return !slices.Contains(all, s) })
}

func TestOutcomesOfModels(t *testing.T) {
	source := rand.New(rand.NewSource(9))
	more := 0
	for range 300 {
		text := smallTest(source)
		test := loaded(t, text)
		var before []string
		for _, model := range models {
			got, errno := test.Explore(model, 4, api.MaxStates)
			if errno == api.ErrLimit { // then by the weaker models there are too many, too
				break
			}
			if !isPartOf(before, got.Outcomes) {
				t.Errorf("P7: the outcomes of %q by model %d are %q, by the one ahead of it %q", text, model, got.Outcomes, before)
			}
			if before != nil && len(got.Outcomes) > len(before) {
				more++
			}
			before = got.Outcomes
		}
	}
	if more < 5 {
		t.Errorf("only %d times a weaker model had more outcomes", more)
	}
}

func TestWalksComeToOutcomes(t *testing.T) {
	source := rand.New(rand.NewSource(10))
	for range 200 {
		test := loaded(t, smallTest(source))
		for _, model := range models {
			report, errno := test.Explore(model, 4, api.MaxStates)
			if errno != api.OK {
				continue
			}
			for range 20 {
				picks := source.Perm(manyPicks)
				if got, errno := test.Walk(model, picks); errno != api.OK || !slices.Contains(report.Outcomes, got) {
					t.Errorf("P7: Walk(%d, %v) of %q = %q, %d, the outcomes are %q", model, picks, test.Print(), got, errno, report.Outcomes)
				}
			}
		}
	}
	for _, text := range []string{storeBuffering, messagePassing, threeStores} {
		for _, model := range models {
			got, _ := loaded(t, text).Explore(model, 4, api.MaxStates)
			if want := outcomesOf(t, text, model, 4); len(want) == 0 || !slices.Equal(got.Outcomes, want) {
				t.Errorf("P7: the outcomes of %q by model %d are %q, all walks come to %q", text, model, got.Outcomes, want)
			}
		}
	}
}

func TestExploreGivesNewMemory(t *testing.T) {
	test := loaded(t, storeBuffering)
	first, _ := test.Explore(api.TSO, 4, 100)
	second, _ := test.Explore(api.TSO, 4, 100)
	kept := slices.Clone(second.Outcomes)
	all := first.Outcomes[:cap(first.Outcomes)]
	for i := range all {
		all[i] = "?"
	}
	third, _ := test.Explore(api.TSO, 4, 100)
	if !slices.Equal(second.Outcomes, kept) || !slices.Equal(third.Outcomes, kept) {
		t.Errorf("P2: written into one list of %q, the others are %q and %q", kept, second.Outcomes, third.Outcomes)
	}
}

func TestExploreAtATime(t *testing.T) {
	test := loaded(t, messagePassing)
	var group sync.WaitGroup
	for i := range 18 {
		model := models[i%3]
		want, _ := surveyed(messagePassing, model, api.MaxStates)
		group.Go(func() {
			for n := range 20 {
				if got, errno := test.Explore(model, 1+(i*n)%64, 100); errno != api.OK || !alike(got, want) {
					t.Errorf("P2: Explore(%d) = %+v, %d, want %+v", model, got, errno, want)
				}
				if _, errno := test.Explore(model, 1+n, 5); errno != api.ErrLimit {
					t.Errorf("P2: Explore(%d) with the limit 5 = %d", model, errno)
				}
				if got, _ := test.Walk(model, make([]int, 6)); !slices.Contains(want.Outcomes, got) {
					t.Errorf("P2: Walk(%d) = %q", model, got)
				}
			}
		})
	}
	group.Wait()
	if got := test.Print(); got != printed(messagePassing) {
		t.Errorf("P1: Print behind the calls = %q", got)
	}
}

func TestNothingOfExploreGoesOn(t *testing.T) {
	before := runtime.NumGoroutine()
	for _, limit := range []int{1, 100, 3000, api.MaxStates - 1, api.MaxStates} {
		loaded(t, mostStates).Explore(api.TSO, api.MaxWorkers, limit)
	}
	// A goroutine that has done its work is counted a moment longer.
	for range 100000 {
		if runtime.NumGoroutine() <= before {
			return
		}
		runtime.Gosched()
	}
	t.Errorf("P1: %d goroutines behind the calls, %d ahead of them", runtime.NumGoroutine(), before)
}

func TestExploreOfNoTest(t *testing.T) {
	for _, test := range []*Test{nil, new(Test)} {
		if got, errno := test.Explore(4, 0, 0); errno != api.ErrModel || !reflect.DeepEqual(got, api.Report{}) {
			t.Errorf("P1: Explore(4, 0, 0) of no test = %+v, %d", got, errno)
		}
		if got, errno := test.Explore(api.SC, 0, 5); errno != api.ErrArg || !reflect.DeepEqual(got, api.Report{}) {
			t.Errorf("P1: Explore(SC, 0, 5) of no test = %+v, %d", got, errno)
		}
		if got, _ := test.Explore(api.SC, 1, 5); !reflect.DeepEqual(got, api.Report{}) {
			t.Errorf("P1: Explore of no test = %+v", got)
		}
	}
}
