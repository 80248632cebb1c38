package hearsay

import (
	"fmt"
	"maps"
	"regexp"
	"slices"
	"strconv"
	"strings"

	"hearsay/api"
)

// A survey goes all ways a second time, in a way of its own: one way after the
// other with the runner, each as far as something new comes, the states kept as
// texts, and the formula worked out from its words.
type survey struct {
	formula  string
	limit    int
	seen     map[string]bool
	outcomes map[string]bool
	so, not  int // of how many ends the formula is so, or not
}

// surveyed tells what P6 asks for.
func surveyed(text string, model, limit int) (api.Report, api.Errno) {
	lines := strings.Split(strings.TrimSuffix(printed(text), "\n"), "\n")
	word, formula, _ := strings.Cut(lines[len(lines)-1], " ")
	s := survey{formula: formula, limit: limit, seen: map[string]bool{}, outcomes: map[string]bool{}}
	script := scriptOf(text)
	s.from(&runner{script: script, model: model, at: make([]int, len(script.steps)), has: map[string]int{}})
	if len(s.seen) > limit {
		return api.Report{}, 6
	}
	holds := s.so > 0
	if word == "forall" {
		holds = s.not == 0
	}
	return api.Report{Outcomes: slices.Sorted(maps.Keys(s.outcomes)), States: len(s.seen), Holds: holds}, 0
}

func (s *survey) from(r *runner) {
	key := r.key()
	if s.seen[key] || len(s.seen) > s.limit {
		return
	}
	s.seen[key] = true
	moves := r.moves()
	for i := range moves {
		next := &runner{r.script, r.model, slices.Clone(r.at), maps.Clone(r.has), slices.Clone(r.waiting)}
		next.moves()[i]()
		s.from(next)
	}
	if len(moves) > 0 {
		return
	}
	s.outcomes[r.outcome()] = true
	if r.isSo(s.formula) {
		s.so++
	} else {
		s.not++
	}
}

// key tells the state: what each thread has, by itself, and what the places have.
func (r *runner) key() string {
	key := ""
	for thread, at := range r.at {
		key += fmt.Sprint("at ", at, ":")
		for _, register := range []string{"r0", "r1", "r2", "r3"} {
			key += fmt.Sprint(" ", r.has[nameOf(thread, register)])
		}
		for _, w := range r.waiting {
			if w.thread == thread {
				key += fmt.Sprint(" ", w.place, w.value)
			}
		}
		key += "\n"
	}
	return key + fmt.Sprint(r.has["w"], r.has["x"], r.has["y"], r.has["z"])
}

var (
	atom      = regexp.MustCompile(`([0-9]:r[0-3]|[w-z]) = ([0-9])`)
	innermost = regexp.MustCompile(`\([^()]*\)`)
)

// isSo puts yes or no for each atom, and then for each pair of brackets that
// holds no other one, till none is left.
func (r *runner) isSo(formula string) bool {
	formula = atom.ReplaceAllStringFunc(formula, func(text string) string {
		parts := atom.FindStringSubmatch(text)
		return yesOrNo(strconv.Itoa(r.has[parts[1]]) == parts[2])
	})
	for strings.Contains(formula, "(") {
		formula = innermost.ReplaceAllStringFunc(formula, func(text string) string {
			return yesOrNo(isFlatSo(strings.Trim(text, "()")))
		})
	}
	return isFlatSo(formula)
}

func yesOrNo(is bool) string {
	if is {
		return "yes"
	}
	return "no"
}

func isFlatSo(formula string) bool {
	for _, part := range strings.Split(formula, " or ") {
		wrong := 0
		for _, word := range strings.Split(part, " and ") {
			nots := strings.Count(word, "not ")
			if strings.HasSuffix(word, "yes") != (nots%2 == 0) {
				wrong++
			}
		}
		if wrong == 0 {
			return true
		}
	}
	return false
}
