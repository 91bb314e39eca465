package cell

import (
	"twoslot/api"
	"twoslot/slot"
)

// nothing is below every version: the Cell of a slot that holds none, and what is kept where nothing is.
const nothing = 0

// both is what the two slots of a cell hold of its drive. One that holds nothing of it is the zero value, so that it is found as the least one and never as the greatest.
type both [2]api.Slot

// checked is what a pair that may be holds of a drive that is there, if the kind is one.
func checked(p api.Params, two api.Pair, kind uint8, index int) (both, api.Errno) {
	all, err := read(p, two)
	switch {
	case err != api.OK:
		return both{}, err
	case kind != api.KindData && kind != api.KindDesc:
		return both{}, api.ErrParams
	case index < 0 || index >= p.K+p.R:
		return both{}, api.ErrParams
	}
	return all.of(index), api.OK
}

// read is what a pair's slots are, each in new memory. Bytes that are no slot are no error: they hold nothing.
func read(p api.Params, two api.Pair) (both, api.Errno) {
	var all both
	for number, held := range two {
		s, _, err := slot.Parse(p, held)
		if err != api.OK {
			return both{}, err
		}
		all[number] = s
	}
	return all, api.OK
}

// of is what of it a drive wrote. An array is a value: the copy that is changed here leaves what it was made of.
func (b both) of(index int) both {
	for number, s := range b {
		if s.Index != index {
			b[number] = api.Slot{}
		}
	}
	return b
}

// only is what of it is of a kind, a changed copy likewise.
func (b both) only(kind uint8) both {
	for number, s := range b {
		if s.Kind != kind {
			b[number] = api.Slot{}
		}
	}
	return b
}

// find is the first slot that holds a version.
func (b both) find(version int) (int, bool) {
	for number, s := range b {
		if s.Cell == version {
			return number, true
		}
	}
	return 0, false
}

// greatest is the slot with the greatest version, of those alike the first one.
func (b both) greatest() int {
	if b[1].Cell > b[0].Cell {
		return 1
	}
	return 0
}

// least is the slot with the least version, of those alike the first one.
func (b both) least() int {
	if b[1].Cell < b[0].Cell {
		return 1
	}
	return 0
}
