package hearsay

import (
	"fmt"
	"math/big"
	"slices"
	"strconv"
	"strings"

	"hearsay/api"
)

// The script and its runner do a right test a second time, in a way of their own:
// straight from the words of its text, with what registers and places have kept by
// their names, and with all stores that wait in one row, whosoever they are.
type script struct {
	steps [][][]string // the words of each step of each thread
	told  []string     // the names that an outcome tells
}

type runner struct {
	script
	model   int
	at      []int // which step of each thread comes next
	has     map[string]int
	waiting []wait
}

type wait struct {
	thread int
	place  string
	value  int
}

func scriptOf(text string) script {
	var s script
	lines := strings.Split(strings.TrimSuffix(printed(text), "\n"), "\n")
	for i, line := range lines[:len(lines)-1] { // the last one is the question
		var steps [][]string
		for _, step := range strings.Split(strings.TrimSuffix(strings.TrimPrefix(line, "thread "), ";"), "; ") {
			words := strings.Split(step, " ")
			steps = append(steps, words)
			if isRegister.MatchString(words[0]) {
				s.told = append(s.told, nameOf(i, words[0]))
			}
		}
		s.steps = append(s.steps, steps)
	}
	for _, x := range thingsOf(text) {
		if x.class == "P" {
			s.told = append(s.told, x.text)
		}
	}
	slices.Sort(s.told) // a thread's number is less than a place's letter
	s.told = slices.Compact(s.told)
	return s
}

// nameOf is a place's own, and a register's with its thread.
func nameOf(thread int, word string) string {
	if isRegister.MatchString(word) {
		return strconv.Itoa(thread) + ":" + word
	}
	return word
}

func (r *runner) value(thread int, word string) int {
	if isDigit.MatchString(word) {
		return int(word[0] - '0')
	}
	for _, w := range slices.Backward(r.waiting) {
		if w.thread == thread && w.place == word {
			return w.value
		}
	}
	return r.has[nameOf(thread, word)]
}

func (r *runner) do(thread int) {
	words := r.steps[thread][r.at[thread]]
	r.at[thread]++
	switch {
	case words[0] == "fence":
	case words[0] == "if":
		if r.value(thread, words[1]) == r.value(thread, words[3]) {
			r.at[thread] += r.value(thread, words[5])
		}
	case words[2] == "swap":
		r.has[nameOf(thread, words[0])] = r.has[words[3]]
		r.has[words[3]] = r.value(thread, words[4])
	case r.model != api.SC && !isRegister.MatchString(words[0]):
		r.waiting = append(r.waiting, wait{thread, words[0], r.value(thread, words[2])})
	default:
		r.has[nameOf(thread, words[0])] = r.value(thread, words[2])
	}
}

// flush brings the first of a thread's stores to one of the places to memory.
func (r *runner) flush(thread int, places string) {
	at := r.waits(thread, places)
	r.has[r.waiting[at].place] = r.waiting[at].value
	r.waiting = slices.Delete(r.waiting, at, at+1)
}

func (r *runner) waits(thread int, places string) int {
	return slices.IndexFunc(r.waiting, func(w wait) bool {
		return w.thread == thread && strings.Contains(places, w.place)
	})
}

func (r *runner) canDo(thread int) bool {
	if r.at[thread] == len(r.steps[thread]) {
		return false
	}
	words := r.steps[thread][r.at[thread]]
	needsMemory := words[0] == "fence" || slices.Contains(words, "swap")
	return !needsMemory || r.waits(thread, "wxyz") < 0
}

func (r *runner) moves() []func() {
	var moves []func()
	together := []string{"wxyz"}
	if r.model == api.PSO {
		together = []string{"w", "x", "y", "z"}
	}
	for thread := range r.steps {
		if r.canDo(thread) {
			moves = append(moves, func() { r.do(thread) })
		}
		for _, places := range together {
			if r.waits(thread, places) >= 0 {
				moves = append(moves, func() { r.flush(thread, places) })
			}
		}
	}
	return moves
}

func (r *runner) outcome() string {
	var words []string
	for _, name := range r.told {
		words = append(words, fmt.Sprintf("%s=%d", name, r.has[name]))
	}
	return strings.Join(words, " ")
}

// meant tells which of so many moves a pick means.
func meant(pick, moves int) int {
	if pick == -1<<63 {
		return 0
	}
	size := new(big.Int).Abs(big.NewInt(int64(pick)))
	return int(size.Mod(size, big.NewInt(int64(moves))).Int64())
}

// walked tells what P5 asks for, and how many picks were needed.
func (s script) walked(model int, picks []int) (string, api.Errno, int) {
	r := &runner{script: s, model: model, at: make([]int, len(s.steps)), has: map[string]int{}}
	for used := 0; ; used++ {
		moves := r.moves()
		if len(moves) == 0 {
			return r.outcome(), 0, used
		}
		if used == len(picks) {
			return "", 7, used
		}
		moves[meant(picks[used], len(moves))]()
	}
}
