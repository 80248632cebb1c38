package hearsay

import (
	"regexp"
	"strings"

	"hearsay/api"
)

// The judge tells a second time, in a way of its own, what Load and Print must
// answer: it goes through a table of states, with the open brackets and nots on
// a stack, where the program goes down from part to part.

var things = regexp.MustCompile(`(?s)[a-z0-9]+|:=|.`)

var (
	isPlace    = regexp.MustCompile(`^[w-z]$`)
	isRegister = regexp.MustCompile(`^r[0-3]$`)
	isDigit    = regexp.MustCompile(`^[0-9]$`)
	isOther    = regexp.MustCompile(`^(thread|fence|swap|if|skip|exists|forall|and|or|not|:=|=|:|;|\(|\))$`)
)

type thing struct {
	text  string
	class string // "P", "R", "D", a word or sign itself, or "" for no token
	at    int
}

func classOf(text string) string {
	switch {
	case isPlace.MatchString(text):
		return "P"
	case isRegister.MatchString(text):
		return "R"
	case isDigit.MatchString(text):
		return "D"
	case isOther.MatchString(text):
		return text
	}
	return ""
}

func thingsOf(text string) []thing {
	var all []thing
	for _, span := range things.FindAllStringIndex(text, -1) {
		s := text[span[0]:span[1]]
		if s != " " && s != "\n" {
			all = append(all, thing{s, classOf(s), span[0]})
		}
	}
	return all
}

var table = map[string]map[string]string{
	"start":    {"thread": "first"},
	"first":    {"P": "store", "R": "assign", "fence": "done", "if": "if"},
	"more":     {"P": "store", "R": "assign", "fence": "done", "if": "if", "thread": "first", "exists": "part", "forall": "part"},
	"store":    {":=": "stored"},
	"stored":   {"D": "done", "R": "done"},
	"assign":   {":=": "value"},
	"value":    {"P": "done", "D": "done", "swap": "swap"},
	"swap":     {"P": "swap P"},
	"swap P":   {"D": "done"},
	"if":       {"R": "if R"},
	"if R":     {"=": "if R ="},
	"if R =":   {"D": "if R = D"},
	"if R = D": {"skip": "skip"},
	"skip":     {"D": "done"},
	"done":     {";": "more"},
	"part":     {"not": "part", "(": "part", "D": "D", "P": "atom"},
	"D":        {":": "D:"},
	"D:":       {"R": "atom"},
	"atom":     {"=": "atom ="},
	"atom =":   {"D": "after"},
	"after":    {"and": "part", "or": "part", ")": "after"},
}

type jump struct {
	at, thread, step, count int // a thread of -1: the count is an atom's thread
}

type judge struct {
	state          string
	threads, steps int
	stack          string
	jumps          []jump
	lengths        []int // steps of each thread
}

func (j *judge) tooMuch(class string) bool {
	switch {
	case class == "thread":
		return j.threads == 4
	case j.state == "more" && class != "exists" && class != "forall":
		return j.steps == 8
	case class == "not", class == "(":
		return len(j.stack) == 6
	case class == ")":
		return j.stack == ""
	}
	return false
}

func (j *judge) note(x thing) {
	value := int(x.text[0]) - '0'
	switch {
	case x.class == "thread":
		j.threads++
		j.steps = 0
		j.lengths = append(j.lengths, 0)
	case x.class == ";":
		j.steps++
		j.lengths[j.threads-1]++
	case x.class == "not":
		j.stack += "n"
	case x.class == "(":
		j.stack += "("
	case x.class == ")":
		j.stack = strings.TrimRight(strings.TrimSuffix(j.stack, "("), "n")
	case x.class == "D" && j.state == "atom =":
		j.stack = strings.TrimRight(j.stack, "n")
	case x.class == "D" && j.state == "skip":
		j.jumps = append(j.jumps, jump{x.at, j.threads - 1, j.steps, value})
	case x.class == "D" && j.state == "part":
		j.jumps = append(j.jumps, jump{x.at, -1, 0, value})
	}
}

// follow goes on to the next state, if the thing may stand here.
func (j *judge) follow(x thing) bool {
	next, ok := table[j.state][x.class]
	if !ok || j.tooMuch(x.class) {
		return false
	}
	j.note(x)
	j.state = next
	return true
}

func (j *judge) wrong(x jump) bool {
	if x.thread < 0 {
		return x.count >= j.threads
	}
	return x.step+x.count >= j.lengths[x.thread]
}

// judged tells the error and the place that P3 asks for.
func judged(text string) (api.Errno, int) {
	if len(text) > 400 {
		return 1, 0
	}
	j := judge{state: "start"}
	for _, x := range thingsOf(text) {
		if !j.follow(x) {
			return 2, x.at
		}
	}
	if j.state != "after" || j.stack != "" {
		return 2, len(text)
	}
	for _, x := range j.jumps {
		if j.wrong(x) {
			return 3, x.at
		}
	}
	return 0, 0
}

// printed writes a right test as P4 asks, token by token.
func printed(text string) string {
	out, before := "", ""
	for _, x := range thingsOf(text) {
		switch {
		case x.class == "exists", x.class == "forall":
			out += "\n"
		case x.class == "thread":
			if out != "" {
				out += "\n"
			}
		case x.class == ";", x.class == ")", x.class == ":", before == "(", before == ":":
		default:
			out += " "
		}
		out += x.text
		before = x.class
	}
	return out + "\n"
}
