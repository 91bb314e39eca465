package object

import (
	"bytes"
	"slices"
	"testing"

	"twoslot/api"
	"twoslot/codec"
)

// same is a vector of one version.
func same(p api.Params, version int) []int {
	return slices.Repeat([]int{version}, p.K+p.R)
}

// with is a vector with another version of some cells.
func with(v []int, version int, cells ...int) []int {
	changed := slices.Clone(v)
	for _, cell := range cells {
		changed[cell] = version
	}
	return changed
}

// slotOf is the slot of a vector whose Cell and Stripe fit to it.
func slotOf(kind uint8, index int, v []int, data []byte) api.Slot {
	return api.Slot{Kind: kind, Index: index, Cell: v[index], Stripe: slices.Max(v), Vector: v, Data: data}
}

// bytesOf is a slot's bytes.
func bytesOf(s api.Slot) []byte {
	made := []byte{'T', '2', s.Kind, byte(s.Index)}
	for _, number := range append([]int{s.Cell, s.Stripe}, s.Vector...) {
		made = append(made, four(number)...)
	}
	return append(made, s.Data...)
}

func sizeOf(p api.Params) int { return 12 + 4*(p.K+p.R) + p.Cell }

// content is what a slot has: bytes, and the slot that they are (kind 0: none), which is known as they were made of it.
type content struct {
	bytes []byte
	slot  api.Slot
}

func contentOf(s api.Slot) content { return content{bytesOf(s), s} }

// of tells whether it is a slot of a kind and a drive.
func (c content) of(kind uint8, drive int) bool {
	return c.slot.Kind == kind && c.slot.Index == drive
}

// noSlots are contents of a slot's size, or blank, that are no slot, though each is nearly one of a kind that has the version 5 everywhere.
func noSlots(p api.Params, kind uint8, drive int) []content {
	right := bytesOf(slotOf(kind, drive, same(p, 5), some(p.Cell, 5)))
	all := []content{{}, {bytes: []byte{}}, {bytes: make([]byte, len(right))}, {bytes: filled(len(right), 255)}}
	for place := range 12 + 4*(p.K+p.R) {
		b := bytes.Clone(right)
		b[place] += 128 // the mark, the kind, the index, a version that is too great or not that of the cell
		all = append(all, content{bytes: b})
	}
	return all
}

// cellsOf are all cells of a stripe with these data.
func cellsOf(p api.Params, data []byte) [][]byte {
	cells := slices.Collect(slices.Chunk(data, p.Cell))
	parity, err := codec.Encode(p.K, p.R, cells)
	if err != api.OK {
		panic(err)
	}
	return append(cells, parity...)
}

// line is a row of contents: by drives, the two slots of each. One that has none is blank.
type line [][2]content

// holders are the drives that hold a version of a descriptor, by the document's sentence.
func (r line) holders(version int) []int {
	var all []int
	for drive, two := range r {
		if slices.ContainsFunc(two[:], func(c content) bool {
			s := c.slot
			return c.of(2, drive) && s.Cell == version && s.Stripe == version && slices.Equal(s.Vector, slices.Repeat([]int{version}, len(r)))
		}) {
			all = append(all, drive)
		}
	}
	return all
}

// winner is the greatest version that at least K drives hold; 0: none.
func (r line) winner(p api.Params) int {
	best := 0
	for _, two := range r {
		for _, c := range two {
			if version := c.slot.Cell; version > best && len(r.holders(version)) >= p.K {
				best = version
			}
		}
	}
	return best
}

// vector is that of a stripe's version: by drives, of one drive the slot 0 first; nil: it is not told.
func (r line) vector(kind uint8, version int) []int {
	for drive, two := range r {
		for _, c := range two {
			if c.of(kind, drive) && c.slot.Stripe == version {
				return c.slot.Vector
			}
		}
	}
	return nil
}

// data are those of a stripe's version; nil: it can't be read.
func (r line) data(p api.Params, kind uint8, version int) []byte {
	v := r.vector(kind, version)
	if v == nil {
		return nil
	}
	there, many := make([][]byte, len(r)), 0
	for drive, two := range r {
		number := slices.IndexFunc(two[:], func(c content) bool { return c.of(kind, drive) && c.slot.Cell == v[drive] })
		if number >= 0 {
			there[drive] = two[number].slot.Data
			many++
		}
	}
	if many < p.K {
		return nil
	}
	cells, err := codec.Decode(p.K, p.R, there)
	if err != api.OK {
		panic(err)
	}
	return slices.Concat(cells[:p.K]...)
}

// known is an image of contents, row by row.
type known struct {
	p    api.Params
	rows []line
}

func blank(p api.Params) known { return known{p, make([]line, p.Rows)} }

// image is what is handed in of it.
func (k known) image() api.Image {
	m := api.Image{P: k.p, Slots: make([][]byte, (k.p.K+k.p.R)*k.p.Rows*2)}
	for row, drives := range k.rows {
		for drive, two := range drives {
			for number, c := range two {
				m.Slots[(drive*k.p.Rows+row)*2+number] = c.bytes
			}
		}
	}
	return m
}

// changed is the image in which one row is another one.
func (k known) changed(row int, change func(drives line)) known {
	rows := slices.Clone(k.rows)
	drives := make(line, k.p.K+k.p.R)
	copy(drives, rows[row])
	change(drives)
	rows[row] = drives
	return known{k.p, rows}
}

// having is the image in which some drives have, in the slots of one number of a row, the cells of a stripe of a vector with these data.
func (k known) having(row, number int, kind uint8, v []int, data []byte, drives ...int) known {
	cells := cellsOf(k.p, data)
	return k.changed(row, func(r line) {
		for _, drive := range drives {
			r[drive][number] = contentOf(slotOf(kind, drive, v, cells[drive]))
		}
	})
}

// whole is the image in which all drives have the cells of a stripe of one version.
func (k known) whole(row, number int, kind uint8, version int, data []byte) known {
	return k.having(row, number, kind, same(k.p, version), data, upTo(0, k.p.K+k.p.R)...)
}

// lost is the image in which all slots of a row are blank.
func (k known) lost(row int) known {
	return k.changed(row, func(r line) { clear(r) })
}

// without is the image with some drives wiped.
func (k known) without(drives ...int) known {
	for row := range k.rows {
		if k.rows[row] == nil {
			continue
		}
		k = k.changed(row, func(r line) {
			for _, drive := range drives {
				r[drive] = [2]content{}
			}
		})
	}
	return k
}

// object is all that is known of one.
type object struct {
	d               api.Desc
	version         int
	leaves, stripes []api.Ref
	bytes           []byte
}

// placeAt is a place for a whole stripe beside a descriptor in a row: in the rows behind it, in the slots 0 and then in the slots 1; each with a version of its own.
func placeAt(p api.Params, row, i int) (at api.Ref, number int) {
	at = api.Ref{Row: (row + 1 + i%(p.Rows-1)) % p.Rows, Version: 20 + 3*i}
	if i%4 == 2 {
		at.Version = most - 3*i - 1
	}
	return at, i / (p.Rows - 1)
}

// built is the image with an object of a length, by seeds unlike: leaves, and stripes, as many as there are places; of more stripes the refs name these again.
func (k known) built(row, version, length, seed int) (known, object) {
	depth, many := shaped(k.p, length)
	width, taken := measured(k.p).width, many*depth
	stripes, room := needed(length, width), 2*(k.p.Rows-1)-taken
	var refs []api.Ref
	var all []byte
	for i := range stripes {
		at, number := placeAt(k.p, row, taken+i%room)
		data := some(width, 1000*seed+i%room+1)
		if i == stripes-1 && i < room {
			clear(data[length-i*width:])
		}
		if i < room {
			k = k.whole(at.Row, number, 1, at.Version, data)
		}
		refs, all = append(refs, at), append(all, data...)
	}
	k, o := k.builtOf(row, version, length, refs)
	o.bytes = all[:length]
	return k, o
}

// builtOf is the image with an object of these stripes, which are there already, or not.
func (k known) builtOf(row, version, length int, stripes []api.Ref) (known, object) {
	var leaves []api.Ref
	depth, many := shaped(k.p, length)
	for i := range many * depth {
		at, number := placeAt(k.p, row, i)
		room := measured(k.p).leaf
		k = k.whole(at.Row, number, 1, at.Version, leafBytes(k.p, stripes[i*room:min(len(stripes), i*room+room)]))
		leaves = append(leaves, at)
	}
	o := object{d: api.Desc{Length: length, Depth: depth, Refs: leaves}, version: version, leaves: leaves, stripes: stripes}
	if depth == 0 {
		o.d.Refs = stripes
	}
	return k.whole(row, 0, 2, version, descBytes(k.p, o.d)), o
}

// wantDesc is what the descriptor of a row tells, and the document's answer of Length.
func (k known) wantDesc(row int) (api.Desc, api.Errno) {
	version := k.rows[row].winner(k.p)
	if version == 0 {
		return api.Desc{}, api.ErrLost
	}
	data := k.rows[row].data(k.p, 2, version)
	if data == nil {
		return api.Desc{}, api.ErrLost
	}
	d, is := readDesc(k.p, data)
	if !is {
		return api.Desc{}, api.ErrDesc
	}
	return d, api.OK
}

// wantStripes are the length and the stripes of the object of a row.
func (k known) wantStripes(row int) (int, []api.Ref, api.Errno) {
	d, err := k.wantDesc(row)
	if err != api.OK || d.Depth == 0 {
		return d.Length, d.Refs, err
	}
	var stripes []api.Ref
	for _, at := range d.Refs {
		data := k.rows[at.Row].data(k.p, 1, at.Version)
		if data == nil {
			return 0, nil, api.ErrLost
		}
		left := needed(d.Length, measured(k.p).width) - len(stripes)
		refs, is := readRefs(k.p, data, min(left, measured(k.p).leaf))
		if !is {
			return 0, nil, api.ErrDesc
		}
		stripes = append(stripes, refs...)
	}
	return d.Length, stripes, api.OK
}

// wants are the document's answers of a row that is there; the stripes' data are nil where one can not be read.
type wants struct {
	p             api.Params
	length        int
	noDesc, noRef api.Errno
	stripes       [][]byte
}

func (k known) wants(row int) wants {
	d, noDesc := k.wantDesc(row)
	_, refs, noRef := k.wantStripes(row)
	w := wants{p: k.p, length: d.Length, noDesc: noDesc, noRef: noRef}
	for _, at := range refs {
		w.stripes = append(w.stripes, k.rows[at.Row].data(k.p, 1, at.Version))
	}
	return w
}

// part is what Part answers, byte by byte.
func (w wants) part(off, n int) ([]byte, api.Errno) {
	m := measured(w.p)
	switch {
	case off < 0 || n < 0:
		return nil, api.ErrParams
	case off > m.most || n > m.most || off+n > m.most:
		return nil, api.ErrTooBig
	case w.noRef != api.OK:
		return nil, w.noRef
	}
	var made []byte
	for at := off; at < off+n && at < w.length; at++ {
		data := w.stripes[at/m.width]
		if data == nil {
			return nil, api.ErrLost
		}
		made = append(made, data[at%m.width])
	}
	return made, api.OK
}

// part is a part that is asked for.
type part struct{ off, n int }

// someParts are a few parts of an object of a length: all of it, none, one byte, over the first stripe's edge, the end, behind it.
func someParts(p api.Params, length int) []part {
	m := measured(p)
	return []part{
		{0, m.most}, {0, 0}, {0, 1}, {0, length}, {length / 2, 1}, {length / 3, length / 3},
		{m.width - 1, 2}, {m.width, m.width}, {max(0, length-1), 1}, {length, 0}, {length, m.most - length},
		{max(0, length-m.width-1), min(length, m.width+1)}, {m.most, 0},
	}
}

// edges are places in an object of a length at which parts begin and end: those of the first stripes, of a middle one, of the last one, and of the object, a byte ahead and a byte behind; and those of cells.
func edges(p api.Params, length int) []int {
	m := measured(p)
	all := []int{0, 1, p.Cell, length / 2, m.most - 1, m.most}
	last := max(0, length-1) / m.width * m.width
	for _, at := range []int{m.width, 2 * m.width, length / 2 / m.width * m.width, last, length} {
		all = append(all, at-1, at, at+1)
	}
	slices.Sort(all)
	return slices.DeleteFunc(slices.Compact(all), func(at int) bool { return at < 0 || at > m.most })
}

// partsOf are all parts between edges.
func partsOf(p api.Params, length int) []part {
	var all []part
	for i, from := range edges(p, length) {
		for _, to := range edges(p, length)[i:] {
			all = append(all, part{from, to - from})
		}
	}
	return all
}

// cut is the part of bytes, as far as there are so many.
func cut(b []byte, of part) []byte {
	var made []byte
	for i, one := range b {
		if i >= of.off && i-of.off < of.n {
			made = append(made, one)
		}
	}
	return made
}

// hasBytes holds all calls on a row against the bytes that the object has.
func hasBytes(t *testing.T, m api.Image, row int, b []byte, parts []part) {
	t.Helper()
	if length, err := Length(m, row); length != len(b) || err != api.OK {
		t.Fatalf("%v: the row %d has the length %d, %d, want %d", m.P, row, length, err, len(b))
	}
	if all, err := Bytes(m, row); !bytes.Equal(all, b) || err != api.OK {
		t.Fatalf("%v: the row %d has the bytes %v, %d, want %v", m.P, row, all, err, b)
	}
	for _, of := range parts {
		want := b[min(of.off, len(b)):min(of.off+of.n, len(b))]
		if some, err := Part(m, row, of.off, of.n); !bytes.Equal(some, want) || err != api.OK {
			t.Fatalf("%v: the row %d with %d bytes has the part %v %v, %d, want %v", m.P, row, len(b), of, some, err, want)
		}
	}
}

// tells holds all calls against an object that is there whole.
func tells(t *testing.T, m api.Image, row int, o object) {
	t.Helper()
	hasBytes(t, m, row, o.bytes, someParts(m.P, len(o.bytes)))
}

// lacks tells that Bytes and Part are refused, whatever part is asked, with no bytes.
func lacks(t *testing.T, m api.Image, row int, err api.Errno) {
	t.Helper()
	if b, got := Bytes(m, row); b != nil || got != err {
		t.Fatalf("%v: Bytes of the row %d are %v, %d, want none and %d", m.P, row, b, got, err)
	}
	for _, of := range []part{{0, 0}, {0, 1}, {1, 20}, {7, 0}} {
		if b, got := Part(m, row, of.off, of.n); b != nil || got != err {
			t.Fatalf("%v: the part %v of the row %d is %v, %d, want none and %d", m.P, of, row, b, got, err)
		}
	}
}

// refuses tells that all calls are refused, with zero values.
func refuses(t *testing.T, m api.Image, row int, err api.Errno) {
	t.Helper()
	if length, got := Length(m, row); length != 0 || got != err {
		t.Fatalf("%v: Length of the row %d is %d, %d, want 0 and %d", m.P, row, length, got, err)
	}
	lacks(t, m, row, err)
}

// hasLength tells that the length is told, and nothing else, with that error.
func hasLength(t *testing.T, m api.Image, row, length int, err api.Errno) {
	t.Helper()
	if got, none := Length(m, row); got != length || none != api.OK {
		t.Fatalf("%v: Length of the row %d is %d, %d, want %d", m.P, row, got, none, length)
	}
	lacks(t, m, row, err)
}

// check holds all calls against the document's answers.
func check(t *testing.T, k known, row int, parts []part) {
	t.Helper()
	m, w := k.image(), k.wants(row)
	if length, err := Length(m, row); length != w.length || err != w.noDesc {
		t.Fatalf("%v: Length of the row %d is %d, %d, want %d, %d", m.P, row, length, err, w.length, w.noDesc)
	}
	all, err := w.part(0, w.length)
	if b, got := Bytes(m, row); !bytes.Equal(b, all) || got != err || err != api.OK && b != nil {
		t.Fatalf("%v: Bytes of the row %d are %v, %d, want %v, %d", m.P, row, b, got, all, err)
	}
	for _, of := range parts {
		want, err := w.part(of.off, of.n)
		if b, got := Part(m, row, of.off, of.n); !bytes.Equal(b, want) || got != err || err != api.OK && b != nil {
			t.Fatalf("%v: the part %v of the row %d is %v, %d, want %v, %d", m.P, of, row, b, got, want, err)
		}
	}
}
