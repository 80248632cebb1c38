package hearsay

import (
	"fmt"
	"math/big"
	"slices"
	"strconv"
	"strings"

	"hearsay/api"
)

// The runner does a right test a second time, in a way of its own: straight from
// the words of its text, with what registers and places have kept by their names.
type runner struct {
	steps [][][]string // the words of each step of each thread
	at    []int        // which step of each thread comes next
	has   map[string]int
	told  []string // the names that an outcome tells
}

func newRunner(text string) *runner {
	r := &runner{has: map[string]int{}}
	threads, question, _ := strings.Cut(printed(text), "\nexists ")
	if question == "" {
		threads, question, _ = strings.Cut(printed(text), "\nforall ")
	}
	for i, line := range strings.Split(threads, "\n") {
		var steps [][]string
		for _, step := range strings.Split(strings.TrimSuffix(strings.TrimPrefix(line, "thread "), ";"), "; ") {
			words := strings.Split(step, " ")
			steps = append(steps, words)
			if isRegister.MatchString(words[0]) {
				r.told = append(r.told, r.name(i, words[0]))
			}
		}
		r.steps = append(r.steps, steps)
		r.at = append(r.at, 0)
	}
	for _, place := range []string{"z", "y", "x", "w"} {
		if slices.ContainsFunc(thingsOf(threads+" "+question), func(x thing) bool { return x.text == place }) {
			r.told = append(r.told, place)
		}
	}
	slices.Sort(r.told) // a thread's number is less than a place's letter
	r.told = slices.Compact(r.told)
	return r
}

// name is a place's own, and a register's with its thread.
func (r *runner) name(thread int, word string) string {
	if isRegister.MatchString(word) {
		return strconv.Itoa(thread) + ":" + word
	}
	return word
}

func (r *runner) value(thread int, word string) int {
	if isDigit.MatchString(word) {
		return int(word[0] - '0')
	}
	return r.has[r.name(thread, word)]
}

func (r *runner) do(thread int) {
	words := r.steps[thread][r.at[thread]]
	r.at[thread]++
	switch {
	case words[0] == "fence":
	case words[0] == "if":
		if r.value(thread, words[1]) == r.value(thread, words[3]) {
			r.at[thread] += r.value(thread, words[5])
		}
	case words[2] == "swap":
		r.has[r.name(thread, words[0])] = r.has[words[3]]
		r.has[words[3]] = r.value(thread, words[4])
	default:
		r.has[r.name(thread, words[0])] = r.value(thread, words[2])
	}
}

// moves are the threads that have a step to do.
func (r *runner) moves() []int {
	var threads []int
	for i, at := range r.at {
		if at != len(r.steps[i]) {
			threads = append(threads, i)
		}
	}
	return threads
}

func (r *runner) outcome() string {
	var words []string
	for _, name := range r.told {
		words = append(words, fmt.Sprintf("%s=%d", name, r.has[name]))
	}
	return strings.Join(words, " ")
}

// meant tells which of so many moves a pick means.
func meant(pick, moves int) int {
	if pick == -1<<63 {
		return 0
	}
	size := new(big.Int).Abs(big.NewInt(int64(pick)))
	return int(size.Mod(size, big.NewInt(int64(moves))).Int64())
}

// walked tells what P5 asks for by SC, and how many picks were needed.
func walked(text string, picks []int) (string, api.Errno, int) {
	r := newRunner(text)
	for used := 0; ; used++ {
		moves := r.moves()
		if len(moves) == 0 {
			return r.outcome(), 0, used
		}
		if used == len(picks) {
			return "", 7, used
		}
		r.do(moves[meant(picks[used], len(moves))])
	}
}
