package reader

import "strings"

// kind tells one kind of token from another; each word and each sign is a kind
// of its own.
type kind int

const (
	noToken kind = iota // a thing in the text that is no token
	ending              // the end of the text
	place
	register
	digit
	wordThread
	wordFence
	wordSwap
	wordIf
	wordSkip
	wordExists
	wordForall
	wordAnd
	wordOr
	wordNot
	signBecomes
	signEquals
	signColon
	signSemicolon
	signOpen
	signClose
)

// token is a token with its first byte's place in the text. Its number is which
// place, register or digit it is; for other kinds it is 0.
type token struct {
	kind   kind
	number int
	at     int
}

// tokenFrom gives the first token from the place on, and the place behind it.
func tokenFrom(text string, at int) (token, int) {
	at = behindBlanks(text, at)
	if at == len(text) {
		return token{ending, 0, at}, at
	}
	if end := behindRow(text, at); end > at {
		which, number := rowKind(text[at:end])
		return token{which, number, at}, end
	}
	which, size := signKind(text[at:])
	return token{which, 0, at}, at + size
}

func behindBlanks(text string, at int) int {
	for at < len(text) && (text[at] == ' ' || text[at] == '\n') {
		at++
	}
	return at
}

func behindRow(text string, at int) int {
	for at < len(text) && (isLetter(text[at]) || isDigit(text[at])) {
		at++
	}
	return at
}

func isLetter(b byte) bool { return 'a' <= b && b <= 'z' }

func isDigit(b byte) bool { return '0' <= b && b <= '9' }

// rowKind tells what a row of letters and digits is, and its number.
func rowKind(row string) (kind, int) {
	switch {
	case len(row) == 1 && isDigit(row[0]):
		return digit, int(row[0] - '0')
	case len(row) == 1 && 'w' <= row[0] && row[0] <= 'z':
		return place, int(row[0] - 'w')
	case len(row) == 2 && row[0] == 'r' && '0' <= row[1] && row[1] <= '3':
		return register, int(row[1] - '0')
	}
	return wordKind(row), 0
}

func wordKind(row string) kind {
	switch row {
	case "thread":
		return wordThread
	case "fence":
		return wordFence
	case "swap":
		return wordSwap
	case "if":
		return wordIf
	case "skip":
		return wordSkip
	case "exists":
		return wordExists
	case "forall":
		return wordForall
	case "and":
		return wordAnd
	case "or":
		return wordOr
	case "not":
		return wordNot
	}
	return noToken
}

// signKind tells which sign the text begins with, and its size in bytes.
func signKind(text string) (kind, int) {
	if strings.HasPrefix(text, ":=") {
		return signBecomes, 2
	}
	switch text[0] {
	case '=':
		return signEquals, 1
	case ':':
		return signColon, 1
	case ';':
		return signSemicolon, 1
	case '(':
		return signOpen, 1
	case ')':
		return signClose, 1
	}
	return noToken, 1
}
