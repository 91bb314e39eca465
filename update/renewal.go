package update

import (
	"twoslot/api"
	"twoslot/cell"
	"twoslot/delta"
	"twoslot/slot"
	"twoslot/vector"
)

// wrong tells what is wrong with changes. That one is of another size is told only when all cells' numbers have been found to be right; a number that is wrong is told at once, so that a long list is not gone through.
func wrong(p api.Params, l []api.Change) api.Errno {
	size, last := api.OK, -1
	for _, change := range l {
		if change.Cell <= last || change.Cell >= p.K {
			goto mayNotBe
		}
		last = change.Cell
		if len(change.Data) != p.Cell {
			size = api.ErrSize
		}
	}
	if len(l) > 0 {
		return size
	}
mayNotBe:
	return api.ErrParams
}

// parity is the parity cells of a stripe with these old cells behind changes that may be: as changes, too, since they are written like these.
func parity(p api.Params, old [][]byte, l []api.Change) []api.Change {
	var numbers []int
	var deltas [][]byte
	for _, change := range l {
		by, _ := delta.Of(old[change.Cell], change.Data) // both have a cell's bytes
		numbers = append(numbers, change.Cell)
		deltas = append(deltas, by)
	}
	updated, _ := delta.All(p.K, p.R, old[p.K:], numbers, deltas) // rising data cells, all alike: nothing is refused
	var cells []api.Change
	for i, data := range updated {
		cells = append(cells, api.Change{Cell: p.K + i, Data: data})
	}
	return cells
}

// renewal is a stripe in a row on its way to a version; kept is the vector of the version that it comes from.
type renewal struct {
	p      api.Params
	row    []api.Pair
	number int
	kept   []int
	to     int
}

// puts are the raw writes of all cells that the new version does not share with the one it comes from. All of them are handed over at once, since each slot's vector names all.
func (in renewal) puts(cells ...api.Change) []api.Put {
	var drives []int
	for _, changed := range cells {
		drives = append(drives, changed.Cell)
	}
	v, _ := vector.Bump(in.p, in.kept, drives, in.to)
	var all []api.Put
	for _, changed := range cells {
		drive := changed.Cell
		older, _ := cell.Older(in.p, in.row[drive], api.KindData, drive, in.kept[drive])
		held, _ := slot.Bytes(in.p, api.Slot{Kind: api.KindData, Index: drive, Cell: in.to, Stripe: in.to, Vector: v, Data: changed.Data})
		all = append(all, api.Put{Drive: drive, Row: in.number, Slot: older, Bytes: held})
	}
	return all
}

// cut is a data cell of a stripe's data; it shares them, so that who answers it clones it.
func cut(p api.Params, data []byte, number int) []byte {
	return data[number*p.Cell : (number+1)*p.Cell]
}
