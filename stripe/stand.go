package stripe

import (
	"slices"

	"twoslot/api"
	"twoslot/cell"
	"twoslot/codec"
	"twoslot/layout"
	"twoslot/slot"
	"twoslot/vector"
)

// nothing is below every version: the Cell of what is not there, and the version that nobody keeps.
const nothing = 0

// stand is a row as the stand of stripes of one kind; parameters, row and kind have been found to be right.
type stand struct {
	p    api.Params
	row  []api.Pair
	kind uint8
}

// asked is the stand that a call asks for a version, if what it was handed may be.
func asked(p api.Params, row []api.Pair, kind uint8, version int) (stand, api.Errno) {
	if err := checkRow(p, row); err != api.OK {
		return stand{}, err
	}
	if kind != api.KindData && kind != api.KindDesc || !within(version, 1, api.MaxVersion) {
		return stand{}, api.ErrParams
	}
	return stand{p, row, kind}, api.OK
}

// written is the stand that a call writes a version into. All numbers have one error, so which of them is looked at first can't be seen.
func written(p api.Params, row []api.Pair, number int, kind uint8, keep, version int) (stand, api.Errno) {
	in, err := asked(p, row, kind, version)
	if err != api.OK {
		return stand{}, err
	}
	if !within(number, 0, p.Rows-1) || !within(keep, nothing, api.MaxVersion) {
		return stand{}, api.ErrParams
	}
	return in, api.OK
}

// checkRow tells whether a row may be. What its slots' bytes are is not asked: a drive may hold any.
func checkRow(p api.Params, row []api.Pair) api.Errno {
	n, err := layout.Drives(p)
	if err != api.OK {
		return err
	}
	if len(row) != n {
		return api.ErrRow
	}
	size, _ := slot.Size(p)
	for _, two := range row {
		if slices.ContainsFunc(two[:], func(held []byte) bool { return len(held) != 0 && len(held) != size }) {
			return api.ErrRow
		}
	}
	return api.OK
}

// within tells whether a number is from least to most.
func within(number, least, most int) bool {
	return number >= least && number <= most
}

// vector is the vector of a version: that of the first slot that tells it; none, if no slot does.
func (in stand) vector(version int) []int {
	for drive, two := range in.row {
		for _, held := range two {
			s, is, _ := slot.Parse(in.p, held)
			if is && s.Kind == in.kind && s.Index == drive && s.Stripe == version {
				return s.Vector
			}
		}
	}
	return nil
}

// each hands on the pairs of the row, drive by drive, each with what it holds of a version. What is not there is the zero slot: so are all cells of a version that is not told, and of nothing.
func (in stand) each(version int, look func(drive int, two api.Pair, held api.Slot)) {
	v := in.vector(version)
	for drive := range len(in.row) {
		two, held := in.row[drive], api.Slot{}
		if v != nil {
			_, held, _, _ = cell.Find(in.p, two, in.kind, drive, v[drive])
		}
		look(drive, two, held)
	}
}

// cells are all cells of a version, of those that are there. Of one that is not told none is: these are too few for any code.
func (in stand) cells(version int) ([][]byte, api.Errno) {
	var there [][]byte
	in.each(version, func(_ int, _ api.Pair, held api.Slot) {
		there = append(there, held.Data)
	})
	return codec.Decode(in.p.K, in.p.R, there)
}

// puts are the raw writes of the cells of a version with this vector; one without bytes is not written. The older slot is asked for by what the pair holds of the version to be kept: where it holds nothing of it, there is nothing to go around.
func (in stand) puts(number, keep int, v []int, cells [][]byte) []api.Put {
	var all []api.Put
	in.each(keep, func(drive int, two api.Pair, kept api.Slot) {
		if len(cells[drive]) == 0 {
			return
		}
		older, _ := cell.Older(in.p, two, in.kind, drive, kept.Cell)
		all = append(all, api.Put{Drive: drive, Row: number, Slot: older, Bytes: in.bytes(drive, v, cells[drive])})
	})
	return all
}

// bytes are the slot of a cell of a version with this vector: a stripe's version is the greatest of its cells'.
func (in stand) bytes(drive int, v []int, data []byte) []byte {
	last, _ := vector.Last(in.p, v)
	made, _ := slot.Bytes(in.p, api.Slot{Kind: in.kind, Index: drive, Cell: v[drive], Stripe: last, Vector: v, Data: data})
	return made
}

// cut is data of a stripe's width as its data cells; they share it, and none has room behind its end.
func cut(p api.Params, data []byte) [][]byte {
	var cells [][]byte
	for number := range p.K {
		from, behind := number*p.Cell, (number+1)*p.Cell
		cells = append(cells, data[from:behind:behind])
	}
	return cells
}
