package hearsay

import (
	"runtime"
	"sync"
	"testing"

	"hearsay/api"
)

func TestNoTextPanics(t *testing.T) {
	for a := range 256 {
		checkAgainstJudge(t, string([]byte{byte(a)}))
		for b := range 256 {
			checkAgainstJudge(t, string([]byte{byte(a), byte(b)}))
			checkAgainstJudge(t, "thread fence; exists x = 0"+string([]byte{byte(a), byte(b)}))
		}
	}
}

func FuzzLoad(f *testing.F) {
	for _, text := range rightTests() {
		f.Add(text)
	}
	f.Fuzz(checkAgainstJudge)
}

func TestNoTestIsPrintedAsNothing(t *testing.T) {
	var none *Test
	if got := none.Print(); got != "" {
		t.Errorf("P1: Print of no test = %q", got)
	}
	if got := new(Test).Print(); got != "" {
		t.Errorf("P1: Print of a test that was not loaded = %q", got)
	}
}

func TestNothingHangsOnEarlierCalls(t *testing.T) {
	text := rightTests()[3]
	kept, _, _ := Load(text)
	first := kept.Print()
	for _, other := range append(rightTests(), "", "thread if r0 = 0 skip 1; exists x = 0", "thread ((((((") {
		errno, at := judged(other)
		checkLoad(t, other, errno, at)
		checkLoad(t, other, errno, at)
		if got := kept.Print(); got != first {
			t.Errorf("P1: Print = %q behind Load(%q), was %q", got, other, first)
		}
		checkLoad(t, text, api.OK, 0)
	}
}

func TestNothingGoesOn(t *testing.T) {
	before := runtime.NumGoroutine()
	for _, text := range rightTests() {
		test, _, _ := Load(text)
		test.Print()
	}
	if after := runtime.NumGoroutine(); after > before {
		t.Errorf("P1: %d goroutines behind the calls, %d ahead of them", after, before)
	}
}

func TestCallsAtATime(t *testing.T) {
	text := rightTests()[1]
	shared, _, _ := Load(text)
	want := printed(text)
	var group sync.WaitGroup
	for range 16 {
		group.Go(func() {
			for range 200 {
				if got := shared.Print(); got != want {
					t.Errorf("P2: Print = %q, want %q", got, want)
				}
				checkLoad(t, text, api.OK, 0)
			}
		})
	}
	group.Wait()
}
