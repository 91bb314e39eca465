package edit

import (
	"bytes"
	"slices"

	"twoslot/api"
)

// newest is the greatest version of all in images as a store leaves them.
const newest = 60

// stood is an image with an object, as a store leaves it: its rows are all unlike, none of them is free, and behind its length all bytes are 0.
type stood struct {
	known
	row   int
	bytes []byte
	free  []int
}

// shuffled are the rows but one, in some order.
func shuffled(p api.Params, but int, throw *dice) []int {
	rows := slices.DeleteFunc(upTo(0, p.Rows), func(row int) bool { return row == but })
	for i := range rows {
		j := i + throw.below(len(rows)-i)
		rows[i], rows[j] = rows[j], rows[i]
	}
	return rows
}

// fits tells whether the rows have room for an object of a length.
func fits(p api.Params, length int) bool {
	depth, many := shaped(p, length)
	return 1+depth*many+needed(length, measured(p).width) <= p.Rows
}

// standing is an image with an object in a row, by seeds unlike: its versions, which slots it stands in, what stands beside it and in the free rows.
func standing(p api.Params, row, length, seed int) stood {
	throw := dice(1000*seed + length)
	rows, width := shuffled(p, row, &throw), measured(p).width
	its := stood{known: blank(p), row: row, bytes: some(length, seed+7)}
	take := func(data []byte) api.Ref {
		at := api.Ref{Row: rows[0], Version: 20 + throw.below(newest-20)}
		rows = rows[1:]
		its.known = its.known.storedStripe(at, data, &throw)
		return at
	}
	var refs []api.Ref
	for from := 0; from < length; from += width {
		data := make([]byte, width)
		copy(data, its.bytes[from:])
		refs = append(refs, take(data))
	}
	d := api.Desc{Length: length, Refs: refs}
	if depth, _ := shaped(p, length); depth == 1 {
		d = api.Desc{Length: length, Depth: 1}
		for held := range slices.Chunk(refs, measured(p).leaf) {
			d.Refs = append(d.Refs, take(leafBytes(p, held)))
		}
	}
	number := throw.below(2)
	its.known = its.whole(row, number, 2, newest, descBytes(p, d))
	if throw.below(3) > 0 { // the one ahead of it
		its.known = its.having(row, 1-number, 2, same(p, 19), descBytes(p, api.Desc{}), someDrives(p, &throw)...)
	}
	for _, free := range rows {
		its.known = its.leftOver(free, &throw)
	}
	its.free = slices.Sorted(slices.Values(rows))
	return its
}

// storedStripe is the image with a stripe as an update left it, or as it was written whole, beside an older version or beside nothing.
func (k known) storedStripe(at api.Ref, data []byte, throw *dice) known {
	number := throw.below(2)
	switch throw.below(3) {
	case 0:
		return k.whole(at.Row, number, 1, at.Version, data)
	case 1:
		k = k.having(at.Row, 1-number, 1, same(k.p, 7), some(len(data), throw.below(100)), someDrives(k.p, throw)...)
		return k.whole(at.Row, number, 1, at.Version, data)
	}
	cell, was := throw.below(k.p.K), bytes.Clone(data) // of which one cell was another one
	copy(was[cell*k.p.Cell:(cell+1)*k.p.Cell], some(k.p.Cell, throw.below(100)))
	changed := append([]int{cell}, upTo(k.p.K, k.p.K+k.p.R)...)
	k = k.whole(at.Row, number, 1, 9, was)
	return k.having(at.Row, 1-number, 1, with(same(k.p, 9), at.Version, changed...), data, changed...)
}

// leftOver is the image with what may stand in a free row: nothing, an old stripe, a descriptor, some cells of either, no slots.
func (k known) leftOver(row int, throw *dice) known {
	data := some(measured(k.p).width, throw.below(100))
	switch throw.below(5) {
	case 0:
		return k.whole(row, throw.below(2), 1, 1+throw.below(newest), data)
	case 1:
		return k.whole(row, 0, 1, 3, data).having(row, 1, 2, same(k.p, 5), data, someDrives(k.p, throw)...)
	case 2:
		return k.having(row, 1, 1, same(k.p, 8), data, someDrives(k.p, throw)...).having(row, 0, 1, same(k.p, 11), data, someDrives(k.p, throw)...)
	case 3:
		return k.changed(row, func(r line) {
			for drive := range r {
				r[drive][throw.below(2)] = one(throw, noSlots(k.p, 1, drive))
			}
		})
	}
	return k
}

// someDrives are some of all drives, perhaps none.
func someDrives(p api.Params, throw *dice) []int {
	return slices.DeleteFunc(upTo(0, p.K+p.R), func(int) bool { return throw.below(2) == 0 })
}

// toSet is a call of Set with all free rows and a new version.
func (its stood) toSet(length, off int, data []byte) call {
	return set(its.row, its.free, newest+1, length, off, data)
}

// toWhole is a call of Whole with all free rows and a new version.
func (its stood) toWhole(data []byte) call { return whole(its.row, its.free, newest+1, data) }
