// Package program: what a test is made of, once it has been read. Places and
// registers are numbered from 0, in the order w, x, y, z and r0 to r3.
package program

// Kind tells one kind of step from another.
type Kind int

// The kinds of steps.
const (
	StoreDigit Kind = iota
	StoreRegister
	Load
	Set
	Swap
	Fence
	Skip
)

// Step is one step of a thread. A field that its kind has no use for is 0.
type Step struct {
	Kind     Kind
	Place    int
	Register int
	Digit    int // what is stored or set, or what the register is held against
	Count    int // how many steps a Skip passes over
}

// Shape tells one kind of formula from another.
type Shape int

// The shapes of formulas. A Group stands for a pair of brackets: it means what
// its part means, but printing must give the brackets back.
const (
	Or Shape = iota
	And
	Not
	Group
	RegisterIs
	PlaceIs
)

// Formula is a formula or a part of one. Or and And have two parts or more,
// Not and Group have one, and the two atoms have none.
type Formula struct {
	Shape    Shape
	Parts    []Formula
	Thread   int
	Register int
	Place    int
	Digit    int
}

// Program is a whole test. Nothing in it changes once it has been read, so that
// several goroutines may use it at a time.
type Program struct {
	Threads [][]Step
	ForAll  bool // the question is forall, else exists
	Formula Formula
}
