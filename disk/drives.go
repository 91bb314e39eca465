package disk

import (
	"twoslot/api"
	"twoslot/layout"
)

const (
	cellSlots    = 2  // slots of a cell
	headBytes    = 12 // what a slot has ahead of its vector
	versionBytes = 4  // of each version in it
)

// drives hold the slots, in the order of an image, and know which of them were wiped. They have no power of their own: who embeds them asks for it.
type drives struct {
	p     api.Params
	slots [][]byte
	gone  [api.MaxDrives]bool
}

// count is how many drives there are.
func (s *drives) count() int {
	n, _ := layout.Drives(s.p) // nobody makes drives of parameters that may not be
	return n
}

// has tells whether there is such a slot.
func (s *drives) has(drive, row, slot int) bool {
	return within(drive, s.count()) && within(row, s.p.Rows) && within(slot, cellSlots)
}

// takes tells whether a raw write may be made.
func (s *drives) takes(x api.Put) bool {
	return s.has(x.Drive, x.Row, x.Slot) && len(x.Bytes) == slotSize(s.p)
}

// at is the place of a slot that is there.
func (s *drives) at(drive, row, slot int) int {
	return (drive*s.p.Rows+row)*cellSlots + slot
}

// put lets a slot hold bytes of a raw write that is taken.
func (s *drives) put(x api.Put) {
	s.slots[s.at(x.Drive, x.Row, x.Slot)] = copied(x.Bytes)
}

// get is the bytes of a slot that is there.
func (s *drives) get(drive, row, slot int) []byte {
	return copied(s.slots[s.at(drive, row, slot)])
}

// wipe makes all slots of a drive blank that is there.
func (s *drives) wipe(drive int) {
	clear(s.slots[s.at(drive, 0, 0):s.at(drive+1, 0, 0)])
	s.gone[drive] = true
}

// wiped are the drives that were wiped since whole; by going through all of them they rise, whatever the order of the wipes.
func (s *drives) wiped() []int {
	var list []int
	for drive, gone := range s.gone {
		if gone {
			list = append(list, drive)
		}
	}
	return list
}

// whole forgets all wipes.
func (s *drives) whole() {
	s.gone = [api.MaxDrives]bool{}
}

// image is what the drives hold.
func (s *drives) image() api.Image {
	return api.Image{P: s.p, Slots: allCopied(s.slots)}
}

// checkImage tells whether an image may be.
func checkImage(m api.Image) api.Errno {
	n, err := layout.Drives(m.P)
	if err != api.OK {
		return err
	}
	if len(m.Slots) != n*m.P.Rows*cellSlots {
		return api.ErrImage
	}
	size := slotSize(m.P)
	for _, held := range m.Slots {
		if len(held) != 0 && len(held) != size {
			return api.ErrImage
		}
	}
	return api.OK
}

// slotSize is how many bytes a slot has that is not blank, by parameters that may be.
func slotSize(p api.Params) int {
	n, _ := layout.Drives(p)
	return headBytes + versionBytes*n + p.Cell
}

// within tells whether a number is one of many things that are numbered from 0.
func within(number, many int) bool {
	return number >= 0 && number < many
}

// copied is new memory with the same bytes, nil for a blank slot's.
func copied(held []byte) []byte {
	return append([]byte(nil), held...)
}

// allCopied is new memory, that of each slot apart.
func allCopied(slots [][]byte) [][]byte {
	all := make([][]byte, len(slots))
	for i, held := range slots {
		all[i] = copied(held)
	}
	return all
}
