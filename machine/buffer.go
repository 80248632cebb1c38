package machine

import "hearsay/api"

type store struct {
	place uint8
	value uint8
}

// buffer has the stores of a thread that wait, in the order in which they came.
// What stands behind them is zero, so that like buffers are equal by ==. A thread
// does each of its steps once at most, so there is room for all its stores.
type buffer struct {
	stores [api.MaxSteps]store
	count  uint8
}

func (b *buffer) isEmpty() bool {
	return b.count == 0
}

func (b *buffer) add(s store) {
	b.stores[b.count] = s
	b.count++
}

// take takes out the store at that place of the row.
func (b *buffer) take(at int) store {
	taken := b.stores[at]
	copy(b.stores[at:], b.stores[at+1:])
	b.count--
	b.stores[b.count] = store{}
	return taken
}

// oldest tells where in the row the first store to a place stands.
func (b *buffer) oldest(place int) (int, bool) {
	for at, s := range b.stores[:b.count] {
		if int(s.place) == place {
			return at, true
		}
	}
	return 0, false
}

// newest tells what the last store to a place stores.
func (b *buffer) newest(place int) (uint8, bool) {
	for at := int(b.count) - 1; at >= 0; at-- {
		if int(b.stores[at].place) == place {
			return b.stores[at].value, true
		}
	}
	return 0, false
}
