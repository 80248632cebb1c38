package program

import (
	"strconv"
	"strings"
)

// Print writes the test so that it can be read again.
func (p *Program) Print() string {
	var out strings.Builder
	for _, steps := range p.Threads {
		out.WriteString("thread")
		for _, step := range steps {
			out.WriteString(" " + step.text() + ";")
		}
		out.WriteString("\n")
	}
	out.WriteString(p.question() + " " + p.Formula.text() + "\n")
	return out.String()
}

func (p *Program) question() string {
	if p.ForAll {
		return "forall"
	}
	return "exists"
}

func (s Step) text() string {
	place, register, digit := PlaceName(s.Place), RegisterName(s.Register), strconv.Itoa(s.Digit)
	stored := digit
	switch s.Kind {
	case StoreRegister:
		stored = register
		fallthrough
	case StoreDigit:
		return place + " := " + stored
	case Load:
		return register + " := " + place
	case Set:
		return register + " := " + digit
	case Swap:
		return register + " := swap " + place + " " + digit
	case Skip:
		return "if " + register + " = " + digit + " skip " + strconv.Itoa(s.Count)
	}
	return "fence"
}

func (f Formula) text() string {
	switch f.Shape {
	case Or:
		return joined(f.Parts, " or ")
	case And:
		return joined(f.Parts, " and ")
	case Not:
		return "not " + joined(f.Parts, "")
	case Group:
		return "(" + joined(f.Parts, "") + ")"
	case RegisterIs:
		return strconv.Itoa(f.Thread) + ":" + RegisterName(f.Register) + " = " + strconv.Itoa(f.Digit)
	}
	return PlaceName(f.Place) + " = " + strconv.Itoa(f.Digit)
}

func joined(parts []Formula, between string) string {
	texts := make([]string, 0, len(parts))
	for _, part := range parts {
		texts = append(texts, part.text())
	}
	return strings.Join(texts, between)
}
