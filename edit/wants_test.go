package edit

import (
	"bytes"
	"fmt"
	"slices"
	"testing"

	"twoslot/api"
)

// call is a call of Set, or of Whole, on a row.
type call struct {
	whole       bool
	row         int
	free        []int
	version     int
	length, off int // of Set
	data        []byte
}

// answer is what it answers.
type answer struct {
	l            []api.Put
	taken, given []int
	err          api.Errno
}

func set(row int, free []int, version, length, off int, data []byte) call {
	return call{row: row, free: free, version: version, length: length, off: off, data: data}
}

func whole(row int, free []int, version int, data []byte) call {
	return call{whole: true, row: row, free: free, version: version, length: len(data), data: data}
}

// on makes the call.
func (c call) on(m api.Image) answer {
	var a answer
	if c.whole {
		a.l, a.taken, a.given, a.err = Whole(m, c.row, c.free, c.version, c.data)
	} else {
		a.l, a.taken, a.given, a.err = Set(m, c.row, c.free, c.version, c.length, c.off, c.data)
	}
	return a
}

// same tells whether two answers tell the same.
func (a answer) same(b answer) bool {
	return slices.EqualFunc(a.l, b.l, samePut) && slices.Equal(a.taken, b.taken) && slices.Equal(a.given, b.given) && a.err == b.err
}

func samePut(x, y api.Put) bool {
	return x.Drive == y.Drive && x.Row == y.Row && x.Slot == y.Slot && bytes.Equal(x.Bytes, y.Bytes)
}

// places are where raw writes go: row * 100 + drive.
func places(l []api.Put) []int {
	all := []int{}
	for _, x := range l {
		all = append(all, x.Row*100+x.Drive)
	}
	return all
}

// wrongNumbers is what is told of the numbers and the rows that are handed in, ahead of what the image holds.
func (k known) wrongNumbers(c call) api.Errno {
	if c.row < 0 || c.row > k.p.Rows-1 || c.version < 1 || c.version > most || !c.whole && (c.length < 0 || c.off < 0) {
		return api.ErrParams
	}
	for i, row := range c.free {
		if row < 0 || row > k.p.Rows-1 || i > 0 && row <= c.free[i-1] {
			return api.ErrParams
		}
	}
	switch {
	case c.length > measured(k.p).most:
		return api.ErrTooBig
	case c.off > c.length || len(c.data) > c.length-c.off:
		return api.ErrParams
	}
	return api.OK
}

// needs is how many rows an object takes from one length to another, counted one by one.
func needs(p api.Params, from, to int) int {
	m, many := measured(p), 0
	for i := needed(from, m.width); i < needed(to, m.width); i++ {
		many++
	}
	leaves := func(length int) int {
		depth, refs := shaped(p, length)
		return depth * refs
	}
	for i := leaves(from); i < leaves(to); i++ {
		many++
	}
	return many
}

// stays tells whether nothing is written.
func (c call) stays(o told) bool {
	if c.whole {
		was := o.bytes()
		return c.length == o.d.Length && was != nil && bytes.Equal(was, c.data)
	}
	return c.length == o.d.Length && len(c.data) == 0
}

// place is a cell of a stripe of an object.
type place struct{ stripe, cell int }

// changed are the cells that change of stripes that the object had already and has, byte by byte.
func (c call) changed(p api.Params, o told) map[place]int {
	m, all := measured(p), map[place]int{}
	meet := func(at int) {
		if at/m.width < len(o.stripes) {
			all[place{at / m.width, at % m.width / p.Cell}]++
		}
	}
	if c.whole {
		for at := range min(len(o.stripes), needed(c.length, m.width)) * m.width {
			is := byte(0)
			if at < len(c.data) {
				is = c.data[at]
			}
			if data := o.data[at/m.width]; data != nil && data[at%m.width] != is {
				meet(at)
			}
		}
		return all
	}
	for i := range c.data {
		meet(c.off + i)
	}
	for at := c.length; at < o.d.Length && c.length > 0; at++ {
		if at/m.width == (c.length-1)/m.width {
			meet(at)
		}
	}
	return all
}

// becomes are the data of a stripe behind the call, byte by byte.
func (c call) becomes(p api.Params, o told, stripe int) []byte {
	width := measured(p).width
	now := make([]byte, width)
	for i := range now {
		at := stripe*width + i
		switch {
		case at >= c.off && at-c.off < len(c.data):
			now[i] = c.data[at-c.off]
		case !c.whole && at < min(c.length, o.d.Length):
			now[i] = o.data[stripe][i]
		}
	}
	return now
}

// refused is what the call tells where it makes no raw writes of an object.
func (k known) refused(c call, o told) api.Errno {
	all := []int{o.version}
	for _, at := range slices.Concat(o.leaves, o.stripes) {
		all = append(all, at.Version)
	}
	if c.version <= slices.Max(all) {
		return api.ErrParams
	}
	if len(c.free) < needs(k.p, o.d.Length, c.length) {
		return api.ErrFull
	}
	for at := range c.changed(k.p, o) {
		if o.data[at.stripe] == nil {
			return api.ErrLost
		}
	}
	for i := range min(len(o.stripes), needed(c.length, measured(k.p).width)) {
		if c.whole && o.data[i] == nil {
			return api.ErrLost
		}
	}
	return api.OK
}

// put is the raw write of a cell of a stripe with this vector, that keeps a version of the cell (0: nothing).
func (k known) put(row int, kind uint8, drive, keep int, v []int, cells [][]byte) api.Put {
	held := bytesOf(slotOf(kind, drive, v, cells[drive]))
	return api.Put{Drive: drive, Row: row, Slot: k.rows[row].older(kind, drive, keep), Bytes: held}
}

// full is the raw writes of a whole stripe of KindData, beside nothing.
func (k known) full(row, version int, data []byte) []api.Put {
	var l []api.Put
	cells := cellsOf(k.p, data)
	for drive := range k.p.K + k.p.R {
		l = append(l, k.put(row, 1, drive, 0, same(k.p, version), cells))
	}
	return l
}

// update is the raw writes of some data cells of a stripe, rising, and of all parity cells, made anew.
func (k known) update(at api.Ref, version int, now []byte, drives []int) []api.Put {
	var l []api.Put
	kept, cells := k.rows[at.Row].vector(1, at.Version), cellsOf(k.p, now)
	drives = append(slices.Sorted(slices.Values(drives)), upTo(k.p.K, k.p.K+k.p.R)...)
	for _, drive := range drives {
		l = append(l, k.put(at.Row, 1, drive, kept[drive], with(kept, version, drives...), cells))
	}
	return l
}

// descriptor is the raw writes of a descriptor, such that its winner is kept.
func (k known) descriptor(row, version int, d api.Desc) []api.Put {
	var l []api.Put
	kept, cells := k.rows[row].vector(2, k.rows[row].winner(k.p)), cellsOf(k.p, descBytes(k.p, d))
	for drive := range k.p.K + k.p.R {
		l = append(l, k.put(row, 2, drive, kept[drive], same(k.p, version), cells))
	}
	return l
}

// wants is what the document's sentences make of the call.
func (k known) wants(c call) answer {
	if err := k.wrongNumbers(c); err != api.OK {
		return answer{err: err}
	}
	o, err := k.told(c.row)
	if err != api.OK || c.stays(o) {
		return answer{err: err}
	}
	if err := k.refused(c, o); err != api.OK {
		return answer{err: err}
	}
	var a answer
	take := func() int {
		a.taken = append(a.taken, c.free[len(a.taken)])
		return a.taken[len(a.taken)-1]
	}
	stripes := k.wantStripes(c, o, &a, take)
	leaves := k.wantLeaves(c, o, stripes, &a, take)
	d := api.Desc{Length: c.length, Refs: stripes}
	if d.Depth, _ = shaped(k.p, c.length); d.Depth == 1 {
		d.Refs = leaves
	}
	a.l = append(a.l, k.descriptor(c.row, c.version, d)...)
	for _, at := range slices.Concat(o.stripes, o.leaves) {
		its := func(other api.Ref) bool { return other.Row == at.Row }
		if at.Row != c.row && !slices.ContainsFunc(stripes, its) && !slices.ContainsFunc(leaves, its) && !slices.Contains(a.given, at.Row) {
			a.given = append(a.given, at.Row)
		}
	}
	slices.Sort(a.given)
	return a
}

// wantStripes are the stripes that the object has then; their raw writes are put to an answer.
func (k known) wantStripes(c call, o told, a *answer, take func() int) []api.Ref {
	var stripes []api.Ref
	cells := c.changed(k.p, o)
	for i := range needed(c.length, measured(k.p).width) {
		if i >= len(o.stripes) {
			at := api.Ref{Row: take(), Version: c.version}
			a.l = append(a.l, k.full(at.Row, c.version, c.becomes(k.p, o, i))...)
			stripes = append(stripes, at)
			continue
		}
		at := o.stripes[i]
		var drives []int
		for its := range cells {
			if its.stripe == i {
				drives = append(drives, its.cell)
			}
		}
		if drives != nil {
			now, becomes := bytes.Clone(o.data[i]), c.becomes(k.p, o, i) // a cell that does not change holds what it held, also behind the length
			for _, cell := range drives {
				copy(now[cell*k.p.Cell:(cell+1)*k.p.Cell], becomes[cell*k.p.Cell:])
			}
			a.l = append(a.l, k.update(at, c.version, now, drives)...)
			at.Version = c.version
		}
		stripes = append(stripes, at)
	}
	return stripes
}

// wantLeaves are the leaves that it has then, none without Depth; their raw writes are put to an answer.
func (k known) wantLeaves(c call, o told, stripes []api.Ref, a *answer, take func() int) []api.Ref {
	depth, many := shaped(k.p, c.length)
	var leaves []api.Ref
	for i := range depth * many {
		room := measured(k.p).leaf
		now := leafBytes(k.p, stripes[i*room:min(len(stripes), (i+1)*room)])
		if i >= len(o.leaves) {
			at := api.Ref{Row: take(), Version: c.version}
			a.l = append(a.l, k.full(at.Row, c.version, now)...)
			leaves = append(leaves, at)
			continue
		}
		at := o.leaves[i]
		old := k.rows[at.Row].data(k.p, 1, at.Version)
		var drives []int
		for cell := range k.p.K {
			if from, to := cell*k.p.Cell, (cell+1)*k.p.Cell; !bytes.Equal(old[from:to], now[from:to]) {
				drives = append(drives, cell)
			}
		}
		if drives != nil {
			a.l = append(a.l, k.update(at, c.version, now, drives)...)
			at.Version = c.version
		}
		leaves = append(leaves, at)
	}
	return leaves
}

// answers holds a call against the document's answer, and tells it.
func answers(t *testing.T, k known, c call) answer {
	t.Helper()
	return holds(t, c, c.on(k.image()), k.wants(c))
}

// holds holds an answer against the one that must be. One that is refused has nothing beside its error.
func holds(t *testing.T, c call, a, want answer) answer {
	t.Helper()
	switch {
	case !a.same(want):
		t.Fatalf("%v: it is %v, taken %v, given %v, %d; want %v, taken %v, given %v, %d", c, places(a.l), a.taken, a.given, a.err, places(want.l), want.taken, want.given, want.err)
	case a.err != api.OK && (a.l != nil || a.taken != nil || a.given != nil):
		t.Fatalf("%v: it is refused, %d, and tells %v, %v, %v", c, a.err, a.l, a.taken, a.given)
	}
	return a
}

// String is a short text of the call.
func (c call) String() string {
	name := "Set"
	if c.whole {
		name = "Whole"
	}
	return name + fmt.Sprint("(row ", c.row, ", free ", c.free, ", version ", c.version, ", length ", c.length, ", off ", c.off, ", ", len(c.data), " bytes)")
}
