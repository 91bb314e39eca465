package image

import (
	"twoslot/api"
	"twoslot/layout"
)

const (
	cellSlots    = 2  // slots of a cell
	headBytes    = 12 // what a slot has ahead of its vector
	versionBytes = 4  // of each version in it
)

// shape is how the slots of an image stand in it, and how many bytes one has that is not blank.
type shape struct{ drives, rows, size int }

// shapeOf is the shape of an image of parameters.
func shapeOf(p api.Params) (shape, api.Errno) {
	n, err := layout.Drives(p)
	if err != api.OK {
		return shape{}, err
	}
	return shape{drives: n, rows: p.Rows, size: headBytes + versionBytes*n + p.Cell}, api.OK
}

// checked is the shape of an image that may be.
func checked(m api.Image) (shape, api.Errno) {
	s, err := shapeOf(m.P)
	if err != api.OK {
		return shape{}, err
	}
	if len(m.Slots) != s.slots() {
		return shape{}, api.ErrImage
	}
	for _, held := range m.Slots {
		if len(held) != 0 && len(held) != s.size {
			return shape{}, api.ErrImage
		}
	}
	return s, api.OK
}

// slots is how many there are.
func (s shape) slots() int {
	return s.at(s.drives, 0, 0)
}

// at is the number of a slot that is there.
func (s shape) at(drive, row, slot int) int {
	return (drive*s.rows+row)*cellSlots + slot
}

// cell is the two slots of a cell that is there, without room for a third one.
func (s shape) cell(m api.Image, drive, row int) [][]byte {
	from, to := s.at(drive, row, 0), s.at(drive, row, cellSlots)
	return m.Slots[from:to:to]
}

// put is the raw write that puts bytes into the slot of a number.
func (s shape) put(number int, held []byte) api.Put {
	cell := number / cellSlots
	return api.Put{Drive: cell / s.rows, Row: cell % s.rows, Slot: number % cellSlots, Bytes: copied(held)}
}

// takes tells whether a raw write may be.
func (s shape) takes(x api.Put) bool {
	there := within(x.Drive, s.drives) && within(x.Row, s.rows) && within(x.Slot, cellSlots)
	return there && len(x.Bytes) == s.size
}

// takesAll tells whether each of some raw writes may be.
func (s shape) takesAll(l []api.Put) bool {
	for _, x := range l {
		if !s.takes(x) {
			return false
		}
	}
	return true
}

// within tells whether a number is one of many things that are numbered from 0.
func within(number, many int) bool {
	return number >= 0 && number < many
}

// copied is new memory with a slot's bytes; a blank one has none, and takes no memory.
func copied(held []byte) []byte {
	if len(held) == 0 {
		return nil
	}
	made := make([]byte, len(held))
	copy(made, held)
	return made
}

// copiedPair is new memory with the two slots of a cell.
func copiedPair(cell [][]byte) api.Pair {
	pair := api.Pair(cell)
	for slot, held := range pair {
		pair[slot] = copied(held)
	}
	return pair
}

// copiedImage is new memory with an image's slots, each apart.
func copiedImage(m api.Image) api.Image {
	made := api.Image{P: m.P, Slots: make([][]byte, len(m.Slots))}
	for i, held := range m.Slots {
		made.Slots[i] = copied(held)
	}
	return made
}
