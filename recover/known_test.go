package recover

import (
	"bytes"
	"math"
	"slices"

	"twoslot/api"
	"twoslot/codec"
)

// same is a vector of one version.
func same(p api.Params, version int) []int {
	return slices.Repeat([]int{version}, p.K+p.R)
}

// with is a vector with another version of some cells.
func with(v []int, version int, cells ...int) []int {
	changed := slices.Clone(v)
	for _, cell := range cells {
		changed[cell] = version
	}
	return changed
}

// slotOf is the slot of a vector whose Cell and Stripe fit to it.
func slotOf(kind uint8, index int, v []int, data []byte) api.Slot {
	return api.Slot{Kind: kind, Index: index, Cell: v[index], Stripe: slices.Max(v), Vector: v, Data: data}
}

// bytesOf is a slot's bytes.
func bytesOf(s api.Slot) []byte {
	made := []byte{'T', '2', s.Kind, byte(s.Index)}
	for _, number := range append([]int{s.Cell, s.Stripe}, s.Vector...) {
		made = append(made, four(number)...)
	}
	return append(made, s.Data...)
}

func sizeOf(p api.Params) int { return 12 + 4*(p.K+p.R) + p.Cell }

// content is what a slot has: bytes, and the slot that they are (kind 0: none), which is known as they were made of it.
type content struct {
	bytes []byte
	slot  api.Slot
}

func contentOf(s api.Slot) content { return content{bytesOf(s), s} }

// of tells whether it is a slot of a kind and a drive.
func (c content) of(kind uint8, drive int) bool {
	return c.slot.Kind == kind && c.slot.Index == drive
}

// noSlots are contents of a slot's size, or blank, that are no slot, though each is nearly one of a kind that has the version 5 everywhere.
func noSlots(p api.Params, kind uint8, drive int) []content {
	right := bytesOf(slotOf(kind, drive, same(p, 5), some(p.Cell, 5)))
	all := []content{{}, {bytes: []byte{}}, {bytes: make([]byte, len(right))}, {bytes: filled(len(right), 255)}}
	for place := range 12 + 4*(p.K+p.R) {
		b := bytes.Clone(right)
		b[place] += 128 // the mark, the kind, the index, a version that is too great or not that of the cell
		all = append(all, content{bytes: b})
	}
	return all
}

// cellsOf are all cells of a stripe with these data.
func cellsOf(p api.Params, data []byte) [][]byte {
	cells := slices.Collect(slices.Chunk(bytes.Clone(data), p.Cell))
	parity, err := codec.Encode(p.K, p.R, cells)
	if err != api.OK {
		panic(err)
	}
	return append(cells, parity...)
}

// line is a row of contents: by drives, the two slots of each. One that has none is blank.
type line [][2]content

// holders are the drives that hold a version of a descriptor, by the document's sentence.
func (r line) holders(version int) []int {
	var all []int
	for drive, two := range r {
		if slices.ContainsFunc(two[:], func(c content) bool {
			s := c.slot
			return c.of(2, drive) && s.Cell == version && s.Stripe == version && slices.Equal(s.Vector, slices.Repeat([]int{version}, len(r)))
		}) {
			all = append(all, drive)
		}
	}
	return all
}

// bestBelow is the greatest version below a bound that at least K drives hold; 0: none.
func (r line) bestBelow(p api.Params, bound int) int {
	best := 0
	for _, two := range r {
		for _, c := range two {
			if version := c.slot.Cell; version < bound && version > best && len(r.holders(version)) >= p.K {
				best = version
			}
		}
	}
	return best
}

func (r line) winner(p api.Params) int { return r.bestBelow(p, math.MaxInt) }

func (r line) runner(p api.Params) int { return r.bestBelow(p, r.winner(p)) }

// vector is that of a stripe's version: by drives, of one drive the slot 0 first; nil: it is not told.
func (r line) vector(kind uint8, version int) []int {
	for drive, two := range r {
		for _, c := range two {
			if c.of(kind, drive) && c.slot.Stripe == version {
				return c.slot.Vector
			}
		}
	}
	return nil
}

// held is the number of the slot of a drive that holds a cell's version, the slot 0 first; -1: neither.
func (r line) held(kind uint8, drive, version int) int {
	return slices.IndexFunc(r[drive][:], func(c content) bool { return c.of(kind, drive) && c.slot.Cell == version })
}

// there are the cells of a stripe's version that are there, by drives; nil: not there.
func (r line) there(kind uint8, version int) (cells [][]byte, many int) {
	cells = make([][]byte, len(r))
	v := r.vector(kind, version)
	for drive := range r {
		if v == nil {
			continue
		}
		if number := r.held(kind, drive, v[drive]); number >= 0 {
			cells[drive] = r[drive][number].slot.Data
			many++
		}
	}
	return cells, many
}

// cells are all cells of a stripe's version; nil: it can't be read.
func (r line) cells(p api.Params, kind uint8, version int) [][]byte {
	there, many := r.there(kind, version)
	if many < p.K {
		return nil
	}
	cells, err := codec.Decode(p.K, p.R, there)
	if err != api.OK {
		panic(err)
	}
	return cells
}

// data are those of a stripe's version; nil: it can't be read.
func (r line) data(p api.Params, kind uint8, version int) []byte {
	cells := r.cells(p, kind, version)
	if cells == nil {
		return nil
	}
	return slices.Concat(cells[:p.K]...)
}

// slotFor is the slot that a new cell of a descriptor goes to, sentence by sentence.
func (r line) slotFor(drive, keep int) int {
	if v := r.vector(2, keep); v != nil && keep != 0 {
		if number := r.held(2, drive, v[drive]); number >= 0 {
			return 1 - number
		}
	}
	for number, c := range r[drive] {
		if c.slot.Kind == 0 || c.slot.Index != drive {
			return number
		}
	}
	if r[drive][1].slot.Cell < r[drive][0].slot.Cell {
		return 1
	}
	return 0
}

// known is an image of contents, row by row.
type known struct {
	p    api.Params
	rows []line
}

func blank(p api.Params) known { return known{p, make([]line, p.Rows)} }

// image is what is handed in of it.
func (k known) image() api.Image {
	m := api.Image{P: k.p, Slots: make([][]byte, (k.p.K+k.p.R)*k.p.Rows*2)}
	for row, drives := range k.rows {
		for drive, two := range drives {
			for number, c := range two {
				m.Slots[(drive*k.p.Rows+row)*2+number] = c.bytes
			}
		}
	}
	return m
}

// changed is the image in which one row is another one.
func (k known) changed(row int, change func(drives line)) known {
	rows := slices.Clone(k.rows)
	drives := make(line, k.p.K+k.p.R)
	copy(drives, rows[row])
	change(drives)
	rows[row] = drives
	return known{k.p, rows}
}

// having is the image in which some drives have, in the slots of one number of a row, the cells of a stripe of a vector with these data.
func (k known) having(row, number int, kind uint8, v []int, data []byte, drives ...int) known {
	cells := cellsOf(k.p, data)
	return k.changed(row, func(r line) {
		for _, drive := range drives {
			r[drive][number] = contentOf(slotOf(kind, drive, v, cells[drive]))
		}
	})
}

// whole is the image in which all drives have the cells of a stripe of one version.
func (k known) whole(row, number int, kind uint8, version int, data []byte) known {
	return k.having(row, number, kind, same(k.p, version), data, upTo(0, k.p.K+k.p.R)...)
}

// lost is the image in which all slots of a row are blank.
func (k known) lost(row int) known {
	return k.changed(row, func(r line) { clear(r) })
}

// without is the image with some drives wiped.
func (k known) without(drives ...int) known {
	for row := range k.rows {
		if k.rows[row] == nil {
			continue
		}
		k = k.changed(row, func(r line) {
			for _, drive := range drives {
				r[drive] = [2]content{}
			}
		})
	}
	return k
}

// behind is the image behind raw writes.
func (k known) behind(l ...api.Put) known {
	for _, x := range l {
		k = k.changed(x.Row, func(r line) { r[x.Drive][x.Slot] = k.read(x.Bytes) })
	}
	return k
}

// read is the content that the bytes of a raw write are, number by number: they are a slot.
func (k known) read(b []byte) content {
	s := api.Slot{Kind: b[2], Index: int(b[3]), Cell: numberOf(b[4:8]), Stripe: numberOf(b[8:12]), Data: b[len(b)-k.p.Cell:]}
	for drive := range k.p.K + k.p.R {
		s.Vector = append(s.Vector, numberOf(b[12+4*drive:16+4*drive]))
	}
	return content{b, s}
}

// told is all that an image tells of an object, by the document's sentences; a stripe's data are nil where it can not be read.
type told struct {
	d               api.Desc
	version         int
	leaves, stripes []api.Ref
	data            [][]byte
}

// desc is the descriptor that counts in a row, and its version.
func (k known) desc(row int) (api.Desc, int, api.Errno) {
	version := k.rows[row].winner(k.p)
	if version == 0 {
		return api.Desc{}, 0, api.ErrLost
	}
	data := k.rows[row].data(k.p, 2, version)
	if data == nil {
		return api.Desc{}, 0, api.ErrLost
	}
	d, is := readDesc(k.p, data)
	if !is {
		return api.Desc{}, 0, api.ErrDesc
	}
	return d, version, api.OK
}

// told is the object of a row.
func (k known) told(row int) (told, api.Errno) {
	d, version, err := k.desc(row)
	if err != api.OK {
		return told{}, err
	}
	o := told{d: d, version: version, stripes: d.Refs}
	if d.Depth == 1 {
		o.leaves, o.stripes = d.Refs, nil
	}
	for _, at := range o.leaves {
		data := k.rows[at.Row].data(k.p, 1, at.Version)
		if data == nil {
			return told{}, api.ErrLost
		}
		left := needed(d.Length, measured(k.p).width) - len(o.stripes)
		refs, is := readRefs(k.p, data, min(left, measured(k.p).leaf))
		if !is {
			return told{}, api.ErrDesc
		}
		o.stripes = append(o.stripes, refs...)
	}
	for _, at := range o.stripes {
		o.data = append(o.data, k.rows[at.Row].data(k.p, 1, at.Version))
	}
	return o, api.OK
}

// bytes are all of the object; nil, if a stripe of it can not be read.
func (o told) bytes() []byte {
	made := []byte{}
	for _, data := range o.data {
		if data == nil {
			return nil
		}
		made = append(made, data...)
	}
	return made[:o.d.Length]
}
