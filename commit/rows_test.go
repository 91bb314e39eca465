package commit

import (
	"bytes"
	"math"
	"slices"
	"strconv"
	"testing"

	"twoslot/api"
	"twoslot/codec"
)

// same is a vector of one version.
func same(p api.Params, version int) []int {
	return slices.Repeat([]int{version}, p.K+p.R)
}

// with is a vector with another version of some cells.
func with(v []int, version int, cells ...int) []int {
	changed := slices.Clone(v)
	for _, cell := range cells {
		changed[cell] = version
	}
	return changed
}

// slotOf is the slot of a vector whose Cell and Stripe fit to it.
func slotOf(kind uint8, index int, v []int, data []byte) api.Slot {
	return api.Slot{Kind: kind, Index: index, Cell: v[index], Stripe: slices.Max(v), Vector: v, Data: data}
}

// bytesOf is a slot's bytes.
func bytesOf(s api.Slot) []byte {
	made := []byte{'T', '2', s.Kind, byte(s.Index)}
	for _, number := range append([]int{s.Cell, s.Stripe}, s.Vector...) {
		made = append(made, four(number)...)
	}
	return append(made, s.Data...)
}

func sizeOf(p api.Params) int { return 12 + 4*(p.K+p.R) + p.Cell }

// content is what a slot has: bytes, and the slot that they are (kind 0: none), which is known as they were made of it.
type content struct {
	bytes []byte
	slot  api.Slot
}

func contentOf(s api.Slot) content { return content{bytesOf(s), s} }

// of tells whether it is a slot of a kind and a drive.
func (c content) of(kind uint8, drive int) bool {
	return c.slot.Kind == kind && c.slot.Index == drive
}

// noSlots are contents of a slot's size, or blank, that are no slot, though each is nearly one of KindDesc that has the version 5 everywhere.
func noSlots(p api.Params, drive int) []content {
	right := bytesOf(slotOf(2, drive, same(p, 5), some(p.Cell, 5)))
	all := []content{{}, {bytes: []byte{}}, {bytes: make([]byte, len(right))}, {bytes: filled(len(right), 255)}}
	for place := range 12 + 4*(p.K+p.R) {
		b := bytes.Clone(right)
		b[place] += 128 // the mark, the kind, the index, a version that is too great or not that of the cell
		all = append(all, content{bytes: b})
	}
	return all
}

// cellsOf are all cells of a stripe with these data.
func cellsOf(p api.Params, data []byte) [][]byte {
	cells := slices.Collect(slices.Chunk(data, p.Cell))
	parity, err := codec.Encode(p.K, p.R, cells)
	if err != api.OK {
		panic(err)
	}
	return append(cells, parity...)
}

// known is a row of contents.
type known [][2]content

func blank(p api.Params) known { return make(known, p.K+p.R) }

// row is what is handed in of it.
func (r known) row() []api.Pair {
	var row []api.Pair
	for _, two := range r {
		row = append(row, api.Pair{two[0].bytes, two[1].bytes})
	}
	return row
}

// having is the row in which some drives have, in the slots of one number, the cells of a stripe of one version with these data.
func (r known) having(p api.Params, number int, kind uint8, version int, data []byte, drives ...int) known {
	changed, cells := slices.Clone(r), cellsOf(p, data)
	for _, drive := range drives {
		changed[drive][number] = contentOf(slotOf(kind, drive, same(p, version), cells[drive]))
	}
	return changed
}

// holding is the row in which some drives hold a version of a descriptor, with which this is unlike those of other versions.
func (r known) holding(p api.Params, number, version int, drives ...int) known {
	return r.having(p, number, 2, version, wantBytes(p, byVersion(p, version)), drives...)
}

// byVersion is a descriptor that is another one for each version.
func byVersion(p api.Params, version int) api.Desc {
	return descOf(p, []int{measured(p).width + 1, 0, 1, measured(p).most}[version%4], version)
}

// behind is the row behind raw writes, which were made of slots that are known.
func (r known) behind(p api.Params, puts []api.Put) known {
	changed := slices.Clone(r)
	for _, x := range puts {
		changed[x.Drive][x.Slot] = content{x.Bytes, slotRead(p, x.Bytes)}
	}
	return changed
}

// slotRead is the slot that a raw write's bytes are, number by number.
func slotRead(p api.Params, b []byte) api.Slot {
	s := api.Slot{Kind: b[2], Index: int(b[3]), Cell: numberOf(b[4:8]), Stripe: numberOf(b[8:12]), Data: b[len(b)-p.Cell:]}
	for drive := range p.K + p.R {
		s.Vector = append(s.Vector, numberOf(b[12+4*drive:16+4*drive]))
	}
	return s
}

// without is the row with some drives wiped.
func (r known) without(drives ...int) known {
	changed := slices.Clone(r)
	for _, drive := range drives {
		changed[drive] = [2]content{}
	}
	return changed
}

// holds tells whether a drive holds a version, by the document's sentence.
func (r known) holds(drive, version int) bool {
	return slices.ContainsFunc(r[drive][:], func(c content) bool {
		s := c.slot
		return c.of(2, drive) && s.Cell == version && s.Stripe == version && slices.Equal(s.Vector, slices.Repeat([]int{version}, len(r)))
	})
}

// holders are the drives that hold a version.
func (r known) holders(version int) []int {
	var all []int
	for drive := range r {
		if r.holds(drive, version) {
			all = append(all, drive)
		}
	}
	return all
}

// bestBelow is the greatest version below a bound that at least K drives hold; 0: none.
func (r known) bestBelow(p api.Params, bound int) int {
	best := 0
	for _, two := range r {
		for _, c := range two {
			if version := c.slot.Cell; version < bound && version > best && len(r.holders(version)) >= p.K {
				best = version
			}
		}
	}
	return best
}

func (r known) winner(p api.Params) int { return r.bestBelow(p, math.MaxInt) }

func (r known) runner(p api.Params) int { return r.bestBelow(p, r.winner(p)) }

// vector is that of a stripe's version: by drives, of one drive the slot 0 first.
func (r known) vector(version int) []int {
	for drive, two := range r {
		for _, c := range two {
			if c.of(2, drive) && c.slot.Stripe == version {
				return c.slot.Vector
			}
		}
	}
	return nil
}

// held is the number of the slot that holds a cell's version, the slot 0 first; -1: neither.
func (r known) held(drive, version int) int {
	return slices.IndexFunc(r[drive][:], func(c content) bool { return c.of(2, drive) && c.slot.Cell == version })
}

// there are the cells of a version that are there, by drives; nil: not there.
func (r known) there(version int) (cells [][]byte, many int) {
	cells = make([][]byte, len(r))
	v := r.vector(version)
	for drive := range r {
		if v == nil {
			continue
		}
		if number := r.held(drive, v[drive]); number >= 0 {
			cells[drive] = r[drive][number].slot.Data
			many++
		}
	}
	return cells, many
}

// cells are all cells of a version; none, if it can't be read.
func (r known) cells(p api.Params, version int) [][]byte {
	there, many := r.there(version)
	if many < p.K {
		return nil
	}
	cells, err := codec.Decode(p.K, p.R, there)
	if err != api.OK {
		panic(err)
	}
	return cells
}

// slotFor is the slot that a new cell goes to, sentence by sentence.
func (r known) slotFor(drive, keep int) int {
	if v := r.vector(keep); v != nil && keep != 0 {
		if number := r.held(drive, v[drive]); number >= 0 {
			return 1 - number
		}
	}
	for number, c := range r[drive] {
		if c.slot.Kind == 0 || c.slot.Index != drive {
			return number
		}
	}
	if r[drive][1].slot.Cell < r[drive][0].slot.Cell {
		return 1
	}
	return 0
}

// puts are the raw writes of some cells of a version with this vector; those without bytes are not written.
func (r known) puts(number, keep int, v []int, cells [][]byte) []api.Put {
	var all []api.Put
	for drive, cell := range cells {
		if len(cell) > 0 {
			all = append(all, api.Put{Drive: drive, Row: number, Slot: r.slotFor(drive, keep), Bytes: bytesOf(slotOf(2, drive, v, cell))})
		}
	}
	return all
}

// wantPuts is the document's answer of Puts.
func (r known) wantPuts(p api.Params, number, version int, d api.Desc) ([]api.Put, api.Errno) {
	winner := r.winner(p)
	switch {
	case number < 0 || number > p.Rows-1 || version < 1 || version > most || version <= winner:
		return nil, api.ErrParams
	case !wantMay(p, d):
		return nil, api.ErrDesc
	}
	return r.puts(number, winner, same(p, version), cellsOf(p, wantBytes(p, d))), api.OK
}

// wantRead is the document's answer of Read.
func (r known) wantRead(p api.Params) (api.Desc, int, api.Errno) {
	winner := r.winner(p)
	if winner == 0 {
		return api.Desc{}, 0, api.ErrLost
	}
	cells := r.cells(p, winner)
	if cells == nil {
		return api.Desc{}, 0, api.ErrLost
	}
	d, is := wantParse(p, slices.Concat(cells[:p.K]...))
	if !is {
		return api.Desc{}, 0, api.ErrDesc
	}
	return d, winner, api.OK
}

// wantFinish is the document's answer of Finish.
func (r known) wantFinish(p api.Params, number int) ([]api.Put, api.Errno) {
	if number < 0 || number > p.Rows-1 {
		return nil, api.ErrParams
	}
	winner := r.winner(p)
	if winner == 0 {
		return nil, api.ErrLost
	}
	cells := r.cells(p, winner)
	if cells == nil {
		return nil, api.ErrLost
	}
	there, _ := r.there(winner)
	for drive := range there {
		if there[drive] != nil {
			cells[drive] = nil
		}
	}
	return r.puts(number, r.runner(p), r.vector(winner), cells), api.OK
}

// told tells what of a row counts: the vectors of its slots.
func (r known) told() string {
	text := ""
	for drive, two := range r {
		for number, c := range two {
			if c.slot.Kind == 0 {
				continue
			}
			text += " " + strconv.Itoa(drive) + "." + strconv.Itoa(number) + " kind " + strconv.Itoa(int(c.slot.Kind)) + " of " + strconv.Itoa(c.slot.Index) + " ("
			for _, version := range c.slot.Vector {
				text += " " + strconv.Itoa(version)
			}
			text += " )"
		}
	}
	return text
}

func samePuts(a, b []api.Put) bool {
	return slices.EqualFunc(a, b, func(x, y api.Put) bool {
		return x.Drive == y.Drive && x.Row == y.Row && x.Slot == y.Slot && bytes.Equal(x.Bytes, y.Bytes)
	})
}

// checkPuts holds Puts against the document's answer, and tells its raw writes.
func checkPuts(t *testing.T, p api.Params, r known, number, version int, d api.Desc) []api.Put {
	t.Helper()
	want, wantErr := r.wantPuts(p, number, version, d)
	puts, err := Puts(p, r.row(), number, version, d)
	if err != wantErr || !samePuts(puts, want) || err != api.OK && puts != nil {
		t.Fatalf("%v: Puts in the row %d%s of the version %d, %s, are %v, %d, want %v, %d", p, number, r.told(), version, toldDesc(d), puts, err, want, wantErr)
	}
	return puts
}

// checkRead does so with Read.
func checkRead(t *testing.T, p api.Params, r known) {
	t.Helper()
	want, wantVersion, wantErr := r.wantRead(p)
	tells(t, p, r, want, wantVersion, wantErr)
}

// tells holds Read against an answer.
func tells(t *testing.T, p api.Params, r known, want api.Desc, wantVersion int, wantErr api.Errno) {
	t.Helper()
	d, version, err := Read(p, r.row())
	if err != wantErr || version != wantVersion || !sameDesc(d, want) || err != api.OK && !zero(d) {
		t.Fatalf("%v: Read in%s is %s, %d, %d, want %s, %d, %d", p, r.told(), toldDesc(d), version, err, toldDesc(want), wantVersion, wantErr)
	}
}

// checkFinish does so with Finish, and tells its raw writes.
func checkFinish(t *testing.T, p api.Params, r known, number int) []api.Put {
	t.Helper()
	want, wantErr := r.wantFinish(p, number)
	puts, err := Finish(p, r.row(), number)
	if err != wantErr || !samePuts(puts, want) || err != api.OK && puts != nil {
		t.Fatalf("%v: Finish in the row %d%s is %v, %d, want %v, %d", p, number, r.told(), puts, err, want, wantErr)
	}
	return puts
}

// versions are those that are written: ones around the winners of the rows, and ones that are alike in their last bytes.
func versions() []int {
	return []int{1, 2, 4, 5, 6, 7, 8, 9, 256 + 5, 65536 + 7, 1<<24 + 5, most - 1, most}
}

// check holds all calls against the document's answers.
func check(t *testing.T, p api.Params, r known) {
	t.Helper()
	checkRead(t, p, r)
	for _, number := range []int{0, p.Rows - 1} {
		checkFinish(t, p, r, number)
	}
	for i, version := range versions() {
		checkPuts(t, p, r, i%p.Rows, version, byVersion(p, version+i))
	}
}
