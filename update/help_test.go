package update

import (
	"bytes"
	"math"
	"slices"
	"strconv"
	"testing"

	"twoslot/api"
	"twoslot/codec"
)

// most is the document's greatest version, not api's name of it.
const most = 1073741824

func exampleP() api.Params { return api.Params{K: 2, R: 1, Cell: 16, Rows: 8} }

// few are parameters with the fewest drives and bytes of a cell, with the most, without parity, and with some between.
func few() []api.Params {
	return []api.Params{
		exampleP(),
		{K: 1, R: 0, Cell: 32, Rows: 8},
		{K: 1, R: 4, Cell: 64, Rows: 9},
		{K: 4, R: 0, Cell: 8, Rows: 8},
		{K: 4, R: 3, Cell: 8, Rows: 100},
		{K: 12, R: 4, Cell: 64, Rows: 256},
		{K: 12, R: 0, Cell: 8, Rows: 10},
		{K: 3, R: 2, Cell: 11, Rows: 13},
	}
}

// every calls visit with every K, R and Cell that may be.
func every(visit func(p api.Params)) {
	for k := 1; k <= 12; k++ {
		for r := range 5 {
			for cell := 8; cell <= 64; cell++ {
				if k*cell >= 32 {
					visit(api.Params{K: k, R: r, Cell: cell, Rows: 8 + (k*cell+r)%249})
				}
			}
		}
	}
}

// wrongParams has wrong numbers at every place.
func wrongParams(visit func(p api.Params)) {
	for _, p := range few() {
		for _, wrong := range []int{-1, math.MinInt, math.MaxInt, 257, 1 << 32, -1 << 32, 1 << 62} {
			for _, place := range []*int{&p.K, &p.R, &p.Cell, &p.Rows} {
				right := *place
				*place = wrong
				visit(p)
				*place = right + 1<<32
				visit(p)
				*place = right
			}
		}
	}
	for _, p := range []api.Params{{}, {K: 0, R: 3, Cell: 16, Rows: 8}, {K: 13, R: 0, Cell: 16, Rows: 8}, {K: 2, R: 5, Cell: 16, Rows: 8}, {K: 2, R: 1, Cell: 15, Rows: 8}, {K: 12, R: 1, Cell: 7, Rows: 8}, {K: 2, R: 1, Cell: 65, Rows: 8}, {K: 2, R: 1, Cell: 16, Rows: 7}} {
		visit(p)
	}
}

func filled(many int, value byte) []byte { return bytes.Repeat([]byte{value}, many) }

// dice makes numbers that are the same in every run.
type dice uint64

func (d *dice) below(many int) int {
	*d = *d*6364136223846793005 + 1442695040888963407
	return int(uint64(*d)>>33) % many
}

// one is some element of a list.
func one[T any](d *dice, of []T) T { return of[d.below(len(of))] }

// some are bytes, by seeds unlike.
func some(many, seed int) []byte {
	throw := dice(seed)
	made := make([]byte, many)
	for i := range made {
		made[i] = byte(throw.below(256))
	}
	return made
}

// someCells are data cells, rising, at least one.
func someCells(p api.Params, throw *dice) []int {
	var cells []int
	for cell := range p.K {
		if throw.below(2) == 0 {
			cells = append(cells, cell)
		}
	}
	if cells == nil {
		return []int{throw.below(p.K)}
	}
	return cells
}

// changesOf are changes of some cells to bytes that hang on a seed.
func changesOf(p api.Params, seed int, cells ...int) []api.Change {
	var l []api.Change
	for _, cell := range cells {
		l = append(l, api.Change{Cell: cell, Data: some(p.Cell, 1000*seed+cell)})
	}
	return l
}

// allCells are the numbers of all data cells.
func allCells(p api.Params) []int {
	var cells []int
	for cell := range p.K {
		cells = append(cells, cell)
	}
	return cells
}

// made is a stripe's data with changes made.
func made(p api.Params, data []byte, l []api.Change) []byte {
	changed := bytes.Clone(data)
	for _, x := range l {
		for i, b := range x.Data {
			changed[x.Cell*p.Cell+i] = b
		}
	}
	return changed
}

// same is a vector of one version.
func same(p api.Params, version int) []int {
	return slices.Repeat([]int{version}, p.K+p.R)
}

// with is a vector with other versions of some cells.
func with(v []int, version int, cells ...int) []int {
	changed := slices.Clone(v)
	for _, cell := range cells {
		changed[cell] = version
	}
	return changed
}

// slotOf is the slot of a vector whose Cell and Stripe fit to it.
func slotOf(kind uint8, index int, v []int, data []byte) api.Slot {
	return api.Slot{Kind: kind, Index: index, Cell: v[index], Stripe: slices.Max(v), Vector: v, Data: data}
}

// bytesOf is a slot's bytes, made by dividing.
func bytesOf(s api.Slot) []byte {
	made := []byte{'T', '2', s.Kind, byte(s.Index)}
	for _, number := range append([]int{s.Cell, s.Stripe}, s.Vector...) {
		made = append(made, byte(number/16777216), byte(number/65536%256), byte(number/256%256), byte(number%256))
	}
	return append(made, s.Data...)
}

func sizeOf(p api.Params) int { return 12 + 4*(p.K+p.R) + p.Cell }

// content is what a slot has: bytes, and the slot that they are (kind 0: none), which is known as they were made of it.
type content struct {
	bytes []byte
	slot  api.Slot
}

func contentOf(s api.Slot) content { return content{bytesOf(s), s} }

// of tells whether it is a slot of a kind and a drive.
func (c content) of(kind uint8, drive int) bool {
	return c.slot.Kind == kind && c.slot.Index == drive
}

// noSlots are contents of a slot's size, or blank, that are no slot of a drive, though each is nearly one that has this vector, none of whose bytes is above 127.
func noSlots(p api.Params, drive int, v []int) []content {
	right := bytesOf(slotOf(1, drive, v, some(p.Cell, 5)))
	all := []content{{}, {bytes: []byte{}}, {bytes: make([]byte, len(right))}, {bytes: filled(len(right), 255)}}
	for place := range 12 + 4*(p.K+p.R) {
		b := bytes.Clone(right)
		b[place] += 128 // the mark, the kind, the index, a version that is too great or not that of the cell
		all = append(all, content{bytes: b})
	}
	return all
}

// known is a row of contents.
type known [][2]content

func blank(p api.Params) known { return make(known, p.K+p.R) }

// row is what is handed in of it.
func (r known) row() []api.Pair {
	var row []api.Pair
	for _, two := range r {
		row = append(row, api.Pair{two[0].bytes, two[1].bytes})
	}
	return row
}

// cellsOf are all cells of a stripe with these data.
func cellsOf(p api.Params, data []byte) [][]byte {
	cells := slices.Collect(slices.Chunk(data, p.Cell))
	parity, err := codec.Encode(p.K, p.R, cells)
	if err != api.OK {
		panic(err)
	}
	return append(cells, parity...)
}

// holding is the row with some of a version's cells with these data (all, if none are named), in the slots of one number.
func (r known) holding(p api.Params, number int, kind uint8, v []int, data []byte, drives ...int) known {
	changed := slices.Clone(r)
	for drive, cell := range cellsOf(p, data) {
		if len(drives) == 0 || slices.Contains(drives, drive) {
			changed[drive][number] = contentOf(slotOf(kind, drive, v, cell))
		}
	}
	return changed
}

// without is the row with some drives wiped.
func (r known) without(drives ...int) known {
	changed := slices.Clone(r)
	for _, drive := range drives {
		changed[drive] = [2]content{}
	}
	return changed
}

// whole is a row that has a whole stripe of data of one version.
func whole(p api.Params, version int, data []byte) known {
	return blank(p).holding(p, 0, 1, same(p, version), data)
}

// wantVector is the document's answer: by drives, of one drive the slot 0 first.
func (r known) wantVector(version int) []int {
	for drive, two := range r {
		for _, c := range two {
			if c.of(1, drive) && c.slot.Stripe == version {
				return c.slot.Vector
			}
		}
	}
	return nil
}

// wantHeld is the slot that holds a cell's version, the slot 0 first.
func (r known) wantHeld(drive, version int) (int, bool) {
	for number, c := range r[drive] {
		if c.of(1, drive) && c.slot.Cell == version {
			return number, true
		}
	}
	return 0, false
}

// wantThere are the cells of a version that are there: their numbers, and by drives their bytes.
func (r known) wantThere(version int) ([]int, [][]byte) {
	var numbers []int
	cells := make([][]byte, len(r))
	v := r.wantVector(version)
	for drive := range r {
		if v == nil {
			continue
		}
		if number, there := r.wantHeld(drive, v[drive]); there {
			numbers = append(numbers, drive)
			cells[drive] = r[drive][number].slot.Data
		}
	}
	return numbers, cells
}

// wantData are the data of a version; none, if it can't be read.
func (r known) wantData(p api.Params, version int) []byte {
	numbers, there := r.wantThere(version)
	if len(numbers) < p.K {
		return nil
	}
	cells, err := codec.Decode(p.K, p.R, there)
	if err != api.OK {
		panic(err)
	}
	return slices.Concat(cells[:p.K]...)
}

// wantSlot is the slot that a new cell goes to, sentence by sentence.
func (r known) wantSlot(drive, kept int) int {
	if number, there := r.wantHeld(drive, kept); there {
		return 1 - number
	}
	for number, c := range r[drive] {
		if c.slot.Kind == 0 || c.slot.Index != drive {
			return number
		}
	}
	if r[drive][1].slot.Cell < r[drive][0].slot.Cell {
		return 1
	}
	return 0
}

// wantPlan are the raw writes of an update; none, if the version can't be read. All new cells are made anew of the new data, nothing by delta.
func (r known) wantPlan(p api.Params, number, from, to int, l []api.Change) []api.Put {
	data := r.wantData(p, from)
	if data == nil {
		return nil
	}
	var drives []int
	for _, x := range l {
		drives = append(drives, x.Cell)
	}
	for drive := p.K; drive < p.K+p.R; drive++ {
		drives = append(drives, drive)
	}
	kept := r.wantVector(from)
	v, cells := with(kept, to, drives...), cellsOf(p, made(p, data, l))
	var all []api.Put
	for _, drive := range drives {
		all = append(all, api.Put{Drive: drive, Row: number, Slot: r.wantSlot(drive, kept[drive]), Bytes: bytesOf(slotOf(1, drive, v, cells[drive]))})
	}
	return all
}

// mixed is a row of slots of all sorts: its vectors are few, some of one stripe version and unlike, so that cells meet.
func mixed(p api.Params, throw *dice) known {
	n := p.K + p.R
	pick := func(v []int, version int) []int {
		changed := slices.Clone(v)
		for range 1 + throw.below(n) {
			changed[throw.below(n)] = version
		}
		return changed
	}
	vectors := [][]int{same(p, 3), same(p, 5), pick(same(p, 3), 5), pick(same(p, 5), 8), pick(same(p, 5), 8), pick(same(p, 1), 3), same(p, most/2)}
	often := one(throw, vectors)
	r := blank(p)
	for drive := range r {
		for number := range 2 {
			r[drive][number] = mixedContent(p, throw, drive, one(throw, vectors))
		}
		if throw.below(8) > 0 {
			r[drive][throw.below(2)] = contentOf(slotOf(1, drive, often, some(p.Cell, 100*drive+often[drive])))
		}
	}
	return r
}

// mixedContent is one of them: blank, no slot, of another drive, of either kind.
func mixedContent(p api.Params, throw *dice, drive int, v []int) content {
	data := some(p.Cell, 100*drive+v[drive])
	switch throw.below(16) {
	case 0, 1:
		return content{}
	case 2:
		return one(throw, noSlots(p, drive, v))
	case 3:
		return contentOf(slotOf(1, throw.below(p.K+p.R), v, data))
	case 4, 5:
		return contentOf(slotOf(2, drive, v, data))
	case 6:
		return contentOf(slotOf(1, drive, v, some(p.Cell, 1+throw.below(1000)))) // other data
	}
	return contentOf(slotOf(1, drive, v, data))
}

// mixedRows calls visit with many of them.
func mixedRows(many int, visit func(p api.Params, r known, throw *dice)) {
	for _, p := range few() {
		for seed := range many {
			throw := dice(seed + 1000*p.K + 100*p.R)
			visit(p, mixed(p, &throw), &throw)
		}
	}
}

func numbersTold(list []int) string {
	text := "("
	for _, number := range list {
		text += " " + strconv.Itoa(number)
	}
	return text + " )"
}

// told tells what of a row counts: the vectors of its slots.
func (r known) told() string {
	text := ""
	for drive, two := range r {
		for number, c := range two {
			if c.slot.Kind != 0 {
				text += " " + strconv.Itoa(drive) + "." + strconv.Itoa(number) + " kind " + strconv.Itoa(int(c.slot.Kind)) + " of " + strconv.Itoa(c.slot.Index) + " " + numbersTold(c.slot.Vector)
			}
		}
	}
	return text
}

func samePuts(a, b []api.Put) bool {
	return slices.EqualFunc(a, b, func(x, y api.Put) bool {
		return x.Drive == y.Drive && x.Row == y.Row && x.Slot == y.Slot && bytes.Equal(x.Bytes, y.Bytes)
	})
}

func sameChanges(a, b []api.Change) bool {
	return slices.EqualFunc(a, b, func(x, y api.Change) bool {
		return x.Cell == y.Cell && bytes.Equal(x.Data, y.Data)
	})
}

// checkPlan holds Plan against the document's answer, and tells its raw writes.
func checkPlan(t *testing.T, p api.Params, r known, number, from, to int, l []api.Change) []api.Put {
	t.Helper()
	want, wantErr := r.wantPlan(p, number, from, to, l), api.OK
	if want == nil {
		wantErr = api.ErrLost
	}
	puts, err := Plan(p, r.row(), number, from, to, l)
	if err != wantErr || !samePuts(puts, want) || want == nil && puts != nil {
		t.Fatalf("%v: Plan in the row %d%s from %d to %d of %v is %v, %d, want %v, %d", p, number, r.told(), from, to, l, puts, err, want, wantErr)
	}
	return puts
}

// behind is a row behind raw writes.
func behind(row []api.Pair, puts []api.Put) []api.Pair {
	changed := slices.Clone(row)
	for _, x := range puts {
		changed[x.Drive][x.Slot] = x.Bytes
	}
	return changed
}

// choices calls visit with every choice of so many numbers below n.
func choices(n, many int, visit func(chosen []int)) {
	var choose func(chosen []int, from int)
	choose = func(chosen []int, from int) {
		if len(chosen) == many {
			visit(chosen)
			return
		}
		for number := from; number < n; number++ {
			choose(append(chosen, number), number+1)
		}
	}
	choose(make([]int, 0, many), 0)
}
