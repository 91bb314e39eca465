package desc

import (
	"twoslot/api"
	"twoslot/layout"
)

// How many bytes each number takes, and what they come to.
const (
	lengthBytes  = 4
	depthBytes   = 1
	manyBytes    = 2
	rowBytes     = 2
	versionBytes = 4
	refBytes     = rowBytes + versionBytes
)

// stripeOf is a head with refs behind it, and bytes 0 up to the width, which is room enough for both.
func stripeOf(p api.Params, head []byte, refs []api.Ref) []byte {
	width, _ := layout.Width(p)
	b := append(make([]byte, 0, width), head...)
	for _, r := range refs {
		b = appendNumber(b, r.Row, rowBytes)
		b = appendNumber(b, r.Version, versionBytes)
	}
	return b[:width] // nothing was written there since it was made
}

// appendHead puts behind some bytes what a descriptor has ahead of its refs.
func appendHead(b []byte, d api.Desc) []byte {
	b = appendNumber(b, d.Length, lengthBytes)
	b = appendNumber(b, d.Depth, depthBytes)
	return appendNumber(b, len(d.Refs), manyBytes)
}

// readDesc is what a stripe's bytes are as a descriptor, whether such a one may be or not. Where they tell of more refs than there is room for, it has only so many as there is.
func readDesc(b []byte) content {
	length, behind := takeNumber(b, lengthBytes)
	depth, behind := takeNumber(behind, depthBytes)
	many, behind := takeNumber(behind, manyBytes)
	its := readLeaf(behind, min(many, len(behind)/refBytes))
	its.length, its.depth, its.many = length, depth, many
	return its
}

// readLeaf is so many refs, for which there is room, with the bytes that stand behind them.
func readLeaf(b []byte, many int) content {
	var refs []api.Ref // nil where there are none: the descriptor of the length 0 is read as the zero value
	for range many {
		refs = append(refs, readRef(b))
		b = b[refBytes:]
	}
	return content{refs: refs, rest: b}
}

// readRef is the ref that bytes begin with.
func readRef(b []byte) api.Ref {
	row, behind := takeNumber(b, rowBytes)
	version, _ := takeNumber(behind, versionBytes)
	return api.Ref{Row: row, Version: version}
}

// appendNumber puts a number behind some bytes, in so many, the great end first.
func appendNumber(b []byte, number, size int) []byte {
	for size > 0 {
		size--
		b = append(b, byte(number>>(8*size)))
	}
	return b
}

// takeNumber is the number that the first bytes are, so many of them, the great end first; and what stands behind them.
func takeNumber(b []byte, size int) (int, []byte) {
	number := 0
	for _, digit := range b[:size] {
		number = number<<8 | int(digit)
	}
	return number, b[size:]
}
