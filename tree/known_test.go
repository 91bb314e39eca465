package tree

import (
	"bytes"
	"slices"
	"strconv"
	"testing"

	"twoslot/api"
	"twoslot/codec"
)

// same is a vector of one version.
func same(p api.Params, version int) []int {
	return slices.Repeat([]int{version}, p.K+p.R)
}

// with is a vector with another version of some cells.
func with(v []int, version int, cells ...int) []int {
	changed := slices.Clone(v)
	for _, cell := range cells {
		changed[cell] = version
	}
	return changed
}

// slotOf is the slot of a vector whose Cell and Stripe fit to it.
func slotOf(kind uint8, index int, v []int, data []byte) api.Slot {
	return api.Slot{Kind: kind, Index: index, Cell: v[index], Stripe: slices.Max(v), Vector: v, Data: data}
}

// bytesOf is a slot's bytes.
func bytesOf(s api.Slot) []byte {
	made := []byte{'T', '2', s.Kind, byte(s.Index)}
	for _, number := range append([]int{s.Cell, s.Stripe}, s.Vector...) {
		made = append(made, four(number)...)
	}
	return append(made, s.Data...)
}

func sizeOf(p api.Params) int { return 12 + 4*(p.K+p.R) + p.Cell }

// content is what a slot has: bytes, and the slot that they are (kind 0: none), which is known as they were made of it.
type content struct {
	bytes []byte
	slot  api.Slot
}

func contentOf(s api.Slot) content { return content{bytesOf(s), s} }

// of tells whether it is a slot of a kind and a drive.
func (c content) of(kind uint8, drive int) bool {
	return c.slot.Kind == kind && c.slot.Index == drive
}

// noSlots are contents of a slot's size, or blank, that are no slot, though each is nearly one of a kind that has the version 5 everywhere.
func noSlots(p api.Params, kind uint8, drive int) []content {
	right := bytesOf(slotOf(kind, drive, same(p, 5), some(p.Cell, 5)))
	all := []content{{}, {bytes: []byte{}}, {bytes: make([]byte, len(right))}, {bytes: filled(len(right), 255)}}
	for place := range 12 + 4*(p.K+p.R) {
		b := bytes.Clone(right)
		b[place] += 128 // the mark, the kind, the index, a version that is too great or not that of the cell
		all = append(all, content{bytes: b})
	}
	return all
}

// cellsOf are all cells of a stripe with these data.
func cellsOf(p api.Params, data []byte) [][]byte {
	cells := slices.Collect(slices.Chunk(data, p.Cell))
	parity, err := codec.Encode(p.K, p.R, cells)
	if err != api.OK {
		panic(err)
	}
	return append(cells, parity...)
}

// line is a row of contents: by drives, the two slots of each. One that has none is blank.
type line [][2]content

// holders are the drives that hold a version of a descriptor, by the document's sentence.
func (r line) holders(version int) []int {
	var all []int
	for drive, two := range r {
		if slices.ContainsFunc(two[:], func(c content) bool {
			s := c.slot
			return c.of(2, drive) && s.Cell == version && s.Stripe == version && slices.Equal(s.Vector, slices.Repeat([]int{version}, len(r)))
		}) {
			all = append(all, drive)
		}
	}
	return all
}

// winner is the greatest version that at least K drives hold; 0: none.
func (r line) winner(p api.Params) int {
	best := 0
	for _, two := range r {
		for _, c := range two {
			if version := c.slot.Cell; version > best && len(r.holders(version)) >= p.K {
				best = version
			}
		}
	}
	return best
}

// vector is that of a stripe's version: by drives, of one drive the slot 0 first; nil: it is not told.
func (r line) vector(kind uint8, version int) []int {
	for drive, two := range r {
		for _, c := range two {
			if c.of(kind, drive) && c.slot.Stripe == version {
				return c.slot.Vector
			}
		}
	}
	return nil
}

// data are those of a stripe's version; nil: it can't be read.
func (r line) data(p api.Params, kind uint8, version int) []byte {
	v := r.vector(kind, version)
	if v == nil {
		return nil
	}
	there, many := make([][]byte, len(r)), 0
	for drive, two := range r {
		number := slices.IndexFunc(two[:], func(c content) bool { return c.of(kind, drive) && c.slot.Cell == v[drive] })
		if number >= 0 {
			there[drive] = two[number].slot.Data
			many++
		}
	}
	if many < p.K {
		return nil
	}
	cells, err := codec.Decode(p.K, p.R, there)
	if err != api.OK {
		panic(err)
	}
	return slices.Concat(cells[:p.K]...)
}

// known is an image of contents, row by row.
type known struct {
	p    api.Params
	rows []line
}

func blank(p api.Params) known { return known{p, make([]line, p.Rows)} }

// image is what is handed in of it.
func (k known) image() api.Image {
	m := api.Image{P: k.p, Slots: make([][]byte, (k.p.K+k.p.R)*k.p.Rows*2)}
	for row, drives := range k.rows {
		for drive, two := range drives {
			for number, c := range two {
				m.Slots[(drive*k.p.Rows+row)*2+number] = c.bytes
			}
		}
	}
	return m
}

// changed is the image in which one row is another one.
func (k known) changed(row int, change func(drives line)) known {
	rows := slices.Clone(k.rows)
	drives := make(line, k.p.K+k.p.R)
	copy(drives, rows[row])
	change(drives)
	rows[row] = drives
	return known{k.p, rows}
}

// having is the image in which some drives have, in the slots of one number of a row, the cells of a stripe of a vector with these data.
func (k known) having(row, number int, kind uint8, v []int, data []byte, drives ...int) known {
	cells := cellsOf(k.p, data)
	return k.changed(row, func(r line) {
		for _, drive := range drives {
			r[drive][number] = contentOf(slotOf(kind, drive, v, cells[drive]))
		}
	})
}

// whole is the image in which all drives have the cells of a stripe of one version.
func (k known) whole(row, number int, kind uint8, version int, data []byte) known {
	return k.having(row, number, kind, same(k.p, version), data, upTo(0, k.p.K+k.p.R)...)
}

// lost is the image in which all slots of a row are blank.
func (k known) lost(row int) known {
	return k.changed(row, func(r line) { clear(r) })
}

// without is the image with some drives wiped.
func (k known) without(drives ...int) known {
	for row := range k.rows {
		if k.rows[row] == nil {
			continue
		}
		k = k.changed(row, func(r line) {
			for _, drive := range drives {
				r[drive] = [2]content{}
			}
		})
	}
	return k
}

// object is all that is told of one.
type object struct {
	d               api.Desc
	version         int
	leaves, stripes []api.Ref
}

// leafAt is where the leaf of a number stands of an object whose descriptor is in a row: in the rows behind it, in the slots 0 and then in the slots 1; each with a version of its own.
func leafAt(p api.Params, row, i int) (at api.Ref, number int) {
	at = api.Ref{Row: (row + 1 + i%(p.Rows-1)) % p.Rows, Version: 20 + 3*i}
	if i%4 == 2 {
		at.Version = most - i
	}
	return at, i / (p.Rows - 1)
}

// built is the image with an object of a length whose stripes are anywhere, and not there; by seeds unlike.
func (k known) built(row, version, length, seed int) (known, object) {
	return k.builtOf(row, version, length, refsOf(k.p, needed(length, measured(k.p).width), seed))
}

// builtOf is the image with an object of these stripes.
func (k known) builtOf(row, version, length int, stripes []api.Ref) (known, object) {
	var leaves []api.Ref
	depth, many := shaped(k.p, length)
	for i := range many * depth {
		at, number := leafAt(k.p, row, i)
		room := measured(k.p).leaf
		k = k.whole(at.Row, number, 1, at.Version, leafBytes(k.p, stripes[i*room:min(len(stripes), i*room+room)]))
		leaves = append(leaves, at)
	}
	o := object{d: api.Desc{Length: length, Depth: depth, Refs: leaves}, version: version, leaves: leaves, stripes: stripes}
	if depth == 0 {
		o.d.Refs = stripes
	}
	return k.whole(row, 0, 2, version, descBytes(k.p, o.d)), o
}

// want is the document's answer of Object of a row that is there, sentence by sentence.
func (k known) want(row int) (object, api.Errno) {
	version := k.rows[row].winner(k.p)
	if version == 0 {
		return object{}, api.ErrLost
	}
	data := k.rows[row].data(k.p, 2, version)
	if data == nil {
		return object{}, api.ErrLost
	}
	d, is := readDesc(k.p, data)
	if !is {
		return object{}, api.ErrDesc
	}
	o := object{d: d, version: version, stripes: d.Refs}
	if d.Depth == 0 {
		return o, api.OK
	}
	o.leaves, o.stripes = d.Refs, nil
	for _, at := range d.Refs {
		data := k.rows[at.Row].data(k.p, 1, at.Version)
		if data == nil {
			return object{}, api.ErrLost
		}
		left := needed(d.Length, measured(k.p).width) - len(o.stripes)
		refs, is := readRefs(k.p, data, min(left, measured(k.p).leaf))
		if !is {
			return object{}, api.ErrDesc
		}
		o.stripes = append(o.stripes, refs...)
	}
	return o, api.OK
}

// rows are all rows that an object in a row has: each number is asked for.
func (o object) rows(p api.Params, row int) []int {
	var all []int
	for number := range p.Rows {
		names := func(r api.Ref) bool { return r.Row == number }
		if number == row || slices.ContainsFunc(o.leaves, names) || slices.ContainsFunc(o.stripes, names) {
			all = append(all, number)
		}
	}
	return all
}

// live is all that is live of it.
func (o object) live(row int) []api.Live {
	all := []api.Live{{Row: row, Kind: 2, Version: o.version}}
	for _, r := range o.leaves {
		all = append(all, api.Live{Row: r.Row, Kind: 1, Version: r.Version})
	}
	for _, r := range o.stripes {
		all = append(all, api.Live{Row: r.Row, Kind: 1, Version: r.Version})
	}
	return all
}

// answers are what all calls answer of a row.
type answers struct {
	object
	rows []int
	live []api.Live
	errs [3]api.Errno
}

// asked makes all calls.
func asked(m api.Image, row int) answers {
	var a answers
	a.d, a.version, a.leaves, a.stripes, a.errs[0] = Object(m, row)
	a.rows, a.errs[1] = Rows(m, row)
	a.live, a.errs[2] = Stripes(m, row)
	return a
}

// answersOf are those that must be of an object.
func answersOf(p api.Params, row int, o object) answers {
	return answers{object: o, rows: o.rows(p, row), live: o.live(row)}
}

func (a answers) same(b answers) bool {
	return a.d.Length == b.d.Length && a.d.Depth == b.d.Depth && slices.Equal(a.d.Refs, b.d.Refs) && a.version == b.version &&
		slices.Equal(a.leaves, b.leaves) && slices.Equal(a.stripes, b.stripes) && slices.Equal(a.rows, b.rows) && slices.Equal(a.live, b.live) && a.errs == b.errs
}

// refused tells whether all calls answered this error, and zero values beside it.
func (a answers) refused(err api.Errno) bool {
	zero := a.d.Length == 0 && a.d.Depth == 0 && a.d.Refs == nil && a.version == 0 && a.leaves == nil && a.stripes == nil && a.rows == nil && a.live == nil
	return zero && a.errs == [3]api.Errno{err, err, err}
}

func toldRefs(refs []api.Ref) string {
	text := " ("
	for _, r := range refs {
		text += " " + strconv.Itoa(r.Row) + "@" + strconv.Itoa(r.Version)
	}
	return text + " )"
}

func (a answers) told() string {
	text := "length " + strconv.Itoa(a.d.Length) + " depth " + strconv.Itoa(a.d.Depth) + toldRefs(a.d.Refs) + " version " + strconv.Itoa(a.version) +
		" leaves" + toldRefs(a.leaves) + " stripes" + toldRefs(a.stripes) + " rows"
	for _, row := range a.rows {
		text += " " + strconv.Itoa(row)
	}
	text += " live"
	for _, its := range a.live {
		text += " " + strconv.Itoa(its.Row) + "/" + strconv.Itoa(int(its.Kind)) + "@" + strconv.Itoa(its.Version)
	}
	for _, err := range a.errs {
		text += " error " + strconv.Itoa(int(err))
	}
	return text
}

// tells holds all calls against what must be told of an object.
func tells(t *testing.T, m api.Image, row int, o object) {
	t.Helper()
	if a, want := asked(m, row), answersOf(m.P, row, o); !a.same(want) {
		t.Fatalf("%v: the row %d tells\n%s, want\n%s", m.P, row, a.told(), want.told())
	}
}

// refuses tells that all calls are refused, with zero values.
func refuses(t *testing.T, m api.Image, row int, err api.Errno) {
	t.Helper()
	if a := asked(m, row); !a.refused(err) {
		t.Fatalf("%v: the row %d of %d slots tells\n%s, want zero values and the errors %d", m.P, row, len(m.Slots), a.told(), err)
	}
}

// check holds all calls against the document's answers.
func check(t *testing.T, k known, row int) {
	t.Helper()
	if o, err := k.want(row); err != api.OK {
		refuses(t, k.image(), row, err)
	} else {
		tells(t, k.image(), row, o)
	}
}
