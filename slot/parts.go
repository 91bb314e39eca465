package slot

import "twoslot/api"

const (
	mark        = "T2" // what the bytes of every slot begin with
	headBytes   = 12   // what a slot has ahead of its vector
	numberBytes = 4    // of each version
)

// parts are the parts of a slot's bytes; they share these.
type parts struct{ mark, kind, index, cell, stripe, vector, data []byte }

// cut is the parts of bytes of a slot's size. None has room behind its end: nothing that is put into one can run into the next.
func cut(p api.Params, b []byte) parts {
	data := len(b) - p.Cell
	return parts{
		mark:   b[0:2:2],
		kind:   b[2:3:3],
		index:  b[3:4:4],
		cell:   b[4:8:8],
		stripe: b[8:headBytes:headBytes],
		vector: b[headBytes:data:data],
		data:   b[data:len(b):len(b)],
	}
}

// version is the part of the vector that has the version of a cell.
func (its parts) version(cell int) []byte {
	from, behind := cell*numberBytes, (cell+1)*numberBytes
	return its.vector[from:behind:behind]
}

// write puts a slot that may be into its parts.
func (its parts) write(s api.Slot) {
	copy(its.mark, mark)
	takeApart(its.kind, int(s.Kind))
	takeApart(its.index, s.Index)
	takeApart(its.cell, s.Cell)
	takeApart(its.stripe, s.Stripe)
	for cell, version := range s.Vector {
		takeApart(its.version(cell), version)
	}
	copy(its.data, s.Data)
}

// read is what the parts behind the mark say, in new memory, whether such a slot may be or not.
func (its parts) read() api.Slot {
	s := api.Slot{
		Kind:   its.kind[0],
		Index:  putTogether(its.index),
		Cell:   putTogether(its.cell),
		Stripe: putTogether(its.stripe),
		Vector: make([]int, len(its.vector)/numberBytes),
		Data:   make([]byte, len(its.data)),
	}
	for cell := range s.Vector {
		s.Vector[cell] = putTogether(its.version(cell))
	}
	copy(s.Data, its.data)
	return s
}

// takeApart puts a number that is not negative into some bytes, the great end first.
func takeApart(to []byte, number int) {
	for i := len(to) - 1; i >= 0; i-- {
		to[i] = byte(number)
		number >>= 8
	}
}

// putTogether is the number that some bytes are, the great end first.
func putTogether(from []byte) int {
	number := 0
	for _, digit := range from {
		number = number<<8 | int(digit)
	}
	return number
}
