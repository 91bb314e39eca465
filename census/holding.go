package census

import (
	"cmp"
	"slices"

	"twoslot/api"
	"twoslot/cell"
	"twoslot/layout"
)

// nothing is below every version: what a slot holds that holds none of a descriptor.
const nothing = 0

// holding is the versions of a descriptor that a drive holds, by its two slots. No version stands there twice, so that the drive is counted once.
type holding [2]int

// holdings are what each drive holds of a row that may be. Every slot is looked at as a pair of its own: of two slots with one Cell a pair tells the first alone, and it may be the second that has this version everywhere.
func holdings(p api.Params, row []api.Pair) ([]holding, api.Errno) {
	n, err := layout.Drives(p)
	switch {
	case err != api.OK:
		return nil, err
	case len(row) != n:
		return nil, api.ErrRow
	}
	all := make([]holding, n)
	for drive, two := range row {
		for number, held := range two {
			_, s, _, err := cell.Newest(p, api.Pair{held}, api.KindDesc, drive)
			if err != api.OK {
				return nil, api.ErrRow // only the slot's size can be refused here
			}
			all[drive][number] = everywhere(s)
		}
		all[drive] = all[drive].once()
	}
	return all, api.OK
}

// everywhere is the version that a slot has for all cells; nothing, if these have several. The zero slot, which holds nothing, has that.
func everywhere(s api.Slot) int {
	if slices.ContainsFunc(s.Vector, func(version int) bool { return version != s.Cell }) {
		return nothing
	}
	return s.Cell
}

// once is the same without a version that both slots hold in the second one: a changed copy, as arrays are values.
func (h holding) once() holding {
	if h[1] == h[0] {
		h[1] = nothing
	}
	return h
}

// has tells whether a version is among them.
func (h holding) has(version int) bool {
	return h[0] == version || h[1] == version
}

// holders are the drives that hold a version, rising, for each that is held.
func holders(all []holding) map[int][]int {
	drives := map[int][]int{}
	for drive, its := range all {
		for _, version := range its {
			if version != nothing {
				drives[version] = append(drives[version], drive)
			}
		}
	}
	return drives
}

// sorted are the tallies of what is held, the greatest version first.
func sorted(drives map[int][]int) []api.Tally {
	var tallies []api.Tally
	for version, by := range drives {
		tallies = append(tallies, api.Tally{Version: version, Cells: by})
	}
	slices.SortFunc(tallies, func(a, b api.Tally) int { return cmp.Compare(b.Version, a.Version) })
	return tallies
}

// enough tells whether so many drives hold a version that it can be read.
func enough(p api.Params, tally api.Tally) bool {
	return len(tally.Cells) >= p.K
}

// readable is the version at a place among those that enough drives hold, the greatest first; false, if there are fewer.
func readable(p api.Params, row []api.Pair, place int) (int, bool, api.Errno) {
	tallies, err := Tallies(p, row)
	if err != api.OK {
		return 0, false, err
	}
	for _, tally := range tallies {
		if !enough(p, tally) {
			continue
		}
		if place == 0 {
			return tally.Version, true, api.OK
		}
		place--
	}
	return 0, false, api.OK
}
