package update

import (
	"bytes"
	"slices"
	"testing"

	"twoslot/api"
)

// exampleW is the chapter's row W: a whole stripe of the version 7 in the slots 0.
func exampleW() known {
	return whole(exampleP(), 7, append(filled(16, 1), filled(16, 2)...))
}

func fives(cell, many int) []api.Change {
	return []api.Change{{Cell: cell, Data: filled(many, 5)}}
}

// The bytes are written out: 141 is 142 times 1 and 244 times 5.
func TestP13_1Examples(t *testing.T) {
	p, row := exampleP(), exampleW().row()
	v := []byte{0, 0, 0, 8, 0, 0, 0, 8, 0, 0, 0, 7, 0, 0, 0, 8, 0, 0, 0, 8}
	want := []api.Put{
		{Drive: 1, Row: 3, Slot: 1, Bytes: slices.Concat([]byte{84, 50, 1, 1}, v, filled(16, 5))},
		{Drive: 2, Row: 3, Slot: 1, Bytes: slices.Concat([]byte{84, 50, 1, 2}, v, filled(16, 141))},
	}
	if puts, err := Plan(p, row, 3, 7, 8, fives(1, 16)); err != api.OK || !samePuts(puts, want) {
		t.Fatalf("Plan is %v, %d, want %v", puts, err, want)
	}
	for i, x := range []struct {
		from, to int
		l        []api.Change
		want     api.Errno
	}{
		{7, 7, fives(1, 16), api.ErrParams},
		{7, 8, nil, api.ErrParams},
		{7, 8, []api.Change{}, api.ErrParams},
		{6, 8, fives(1, 16), api.ErrLost},
		{7, 8, fives(1, 15), api.ErrSize},
	} {
		if puts, err := Plan(p, row, 3, x.from, x.to, x.l); puts != nil || err != x.want {
			t.Fatalf("Plan of the case %d is %v, %d, want zero, %d", i, puts, err, x.want)
		}
	}
}

// By every K, R and Cell: one change, of each cell in turn, and changes of all; the first and the last number of a row; the least and the greatest versions.
func TestP13_1ByEveryParams(t *testing.T) {
	every(func(p api.Params) {
		number := []int{0, p.Rows - 1}[p.Cell%2]
		versions := [][2]int{{1, 2}, {1, most}, {most - 1, most}, {255, 256}}[p.Cell/2%4]
		r := whole(p, versions[0], some(p.K*p.Cell, p.K+17*p.R))
		checkPlan(t, p, r, number, versions[0], versions[1], changesOf(p, 1, p.Cell%p.K))
		checkPlan(t, p, r, number, versions[0], versions[1], changesOf(p, 2, allCells(p)...))
	})
}

// Every choice of changed cells, in every number of a row.
func TestP13_1EveryChoiceOfCells(t *testing.T) {
	for _, p := range few() {
		if p.K > 4 {
			continue
		}
		r := whole(p, 4, some(p.K*p.Cell, 3))
		for many := 1; many <= p.K; many++ {
			choices(p.K, many, func(cells []int) {
				for number := range p.Rows {
					puts := checkPlan(t, p, r, number, 4, 9, changesOf(p, many, cells...))
					if len(puts) != many+p.R {
						t.Fatalf("%v: an update of %d cells is %d raw writes", p, many, len(puts))
					}
				}
			})
		}
	}
}

// In whatever row, from whatever version, told or not, that can be read or not.
func TestP13_1MixedRows(t *testing.T) {
	planned, lost := 0, 0
	mixedRows(300, func(p api.Params, r known, throw *dice) {
		for _, from := range []int{1, 2, 3, 4, 5, 8, 256 + 5, 65536 + 3, 1<<24 + 8, most / 2, most - 1} {
			for _, to := range []int{from + 1, max(from+1, 9), most} {
				l := changesOf(p, throw.below(100), someCells(p, throw)...)
				if puts := checkPlan(t, p, r, one(throw, []int{0, 1, p.Rows - 1}), from, to, l); puts != nil {
					planned++
				} else {
					lost++
				}
			}
		}
	})
	if planned < 1000 || lost < 1000 {
		t.Fatalf("only %d were planned, only %d lost", planned, lost)
	}
}

// A change that changes nothing is written all the same.
func TestP13_1ChangesThatChangeNothing(t *testing.T) {
	for _, p := range few() {
		data := some(p.K*p.Cell, 8)
		r := whole(p, 4, data)
		for cell := range p.K {
			l := []api.Change{{Cell: cell, Data: data[cell*p.Cell : (cell+1)*p.Cell]}}
			puts := checkPlan(t, p, r, 0, 4, 5, l)
			if len(puts) != 1+p.R || puts[0].Drive != cell {
				t.Fatalf("%v: a change that changes nothing is %v", p, puts)
			}
			for _, x := range puts {
				held := r[x.Drive][0].bytes
				if !bytes.Equal(x.Bytes[sizeOf(p)-p.Cell:], held[sizeOf(p)-p.Cell:]) || bytes.Equal(x.Bytes, held) {
					t.Fatalf("%v: the cell %d gets other bytes, or the old versions", p, x.Drive)
				}
			}
		}
	}
}

// Cells written by elder versions: the vector is unlike from cell to cell, and what is not written stays in it.
func TestP13_1VectorUnlikeFromCellToCell(t *testing.T) {
	p := api.Params{K: 4, R: 1, Cell: 8, Rows: 8}
	first, second, third := some(32, 1), some(32, 1), some(32, 1)
	copy(second[8:16], some(8, 2))
	copy(third[8:24], slices.Concat(second[8:16], some(8, 3)))
	r := whole(p, 2, first).
		holding(p, 1, 1, []int{2, 5, 2, 2, 5}, second, 1, 4).
		holding(p, 1, 1, []int{2, 5, 6, 2, 6}, third, 2).
		holding(p, 0, 1, []int{2, 5, 6, 2, 6}, third, 4)
	want := []struct{ drive, slot int }{{0, 1}, {1, 0}, {4, 1}}
	puts := checkPlan(t, p, r, 7, 6, 9, changesOf(p, 4, 0, 1))
	for i, x := range puts {
		if x.Drive != want[i].drive || x.Slot != want[i].slot || !bytes.Equal(x.Bytes[12:32], []byte{0, 0, 0, 9, 0, 0, 0, 9, 0, 0, 0, 6, 0, 0, 0, 2, 0, 0, 0, 9}) {
			t.Fatalf("the raw write %d is %v", i, x)
		}
	}
	checkPlan(t, p, r, 7, 5, 9, changesOf(p, 4, 0, 1, 2, 3)) // one back: its parity cell is there, too
	checkPlan(t, p, r, 7, 2, 9, changesOf(p, 4, 2))          // two back
}

// Slots that tell one version with unlike vectors: that of the first one counts.
func TestP13_1VersionToldWithUnlikeVectors(t *testing.T) {
	p := api.Params{K: 3, R: 1, Cell: 11, Rows: 8}
	at := func(drive int, v ...int) content { return contentOf(slotOf(1, drive, v, some(11, drive+7*v[drive]))) }
	r := known{
		{at(0, 4, 4, 4, 4), at(0, 6, 6, 4, 6)},
		{at(1, 6, 6, 6, 6), at(1, 4, 4, 4, 4)},
		{at(2, 6, 6, 6, 6), at(2, 4, 4, 4, 4)},
		{at(3, 4, 6, 6, 6), at(3, 4, 4, 4, 4)},
	}
	for i, x := range []struct {
		from  int
		cell  int
		slots [2]int
	}{{6, 0, [2]int{0, 1}}, {6, 1, [2]int{1, 1}}, {6, 2, [2]int{0, 1}}, {4, 0, [2]int{1, 0}}, {4, 2, [2]int{0, 0}}} {
		puts := checkPlan(t, p, r, 1, x.from, 8, changesOf(p, i, x.cell))
		if puts[0].Slot != x.slots[0] || puts[1].Slot != x.slots[1] {
			t.Fatalf("the case %d goes to the slots %d and %d", i, puts[0].Slot, puts[1].Slot)
		}
	}
}

// Into which slot a cell goes, case by case, of the data cell 1 and of the parity cell of an example.
func TestP13_1IntoWhichSlot(t *testing.T) {
	p := exampleP()
	for _, drive := range []int{1, 2} {
		at := func(kind uint8, index, version int) content {
			return contentOf(slotOf(kind, index, same(p, version), some(16, version)))
		}
		other := content{bytes: filled(40, 255)}
		for i, x := range []struct {
			first, second content
			want          int
		}{
			{at(1, drive, 7), content{}, 1},
			{content{}, at(1, drive, 7), 0},
			{at(1, drive, 7), at(1, drive, 5), 1},
			{at(1, drive, 5), at(1, drive, 7), 0},
			{at(1, drive, 7), at(1, drive, 9), 1},
			{at(1, drive, 9), at(1, drive, 7), 0},
			{at(1, drive, 7), at(1, drive, 7), 1}, // the slot 0 is kept
			{at(1, drive, 7), at(2, drive, 7), 1},
			{at(2, drive, 7), at(1, drive, 7), 0},
			{at(1, drive, 7), other, 1},
			{other, at(1, drive, 7), 0},
			{content{}, content{}, 0}, // of what follows nothing is there
			{at(1, drive, 5), content{}, 1},
			{content{}, at(1, drive, 5), 0},
			{at(1, drive, 5), at(1, drive, 6), 0},
			{at(1, drive, 6), at(1, drive, 5), 1},
			{at(1, drive, 5), at(1, drive, 5), 0},
			{at(2, drive, 7), at(1, drive, 6), 1}, // of the other kind: what is less goes
			{at(2, drive, 6), at(2, drive, 7), 0},
			{at(2, drive, 7), at(2, drive, 6), 1},
			{at(1, 0, 7), at(1, drive, 6), 0}, // of another drive: it holds nothing
			{at(1, drive, 6), at(1, 0, 7), 1},
			{other, other, 0},
			{at(1, drive, 6), other, 1},
		} {
			r := exampleW()
			r[drive] = [2]content{x.first, x.second}
			if puts := checkPlan(t, p, r, 5, 7, 12, fives(1, 16)); puts[drive-1].Slot != x.want {
				t.Fatalf("the cell %d of the case %d goes to the slot %d, want %d", drive, i, puts[drive-1].Slot, x.want)
			}
		}
	}
}

// Pairs both of whose slots hold the version, with other bytes: those of the slot 0 count, and stay.
func TestP13_1PairsThatHoldTheVersionTwice(t *testing.T) {
	for _, p := range few() {
		data := some(p.K*p.Cell, 1)
		r := whole(p, 7, data).holding(p, 1, 1, same(p, 7), some(p.K*p.Cell, 2))
		for cell := range p.K {
			for _, x := range checkPlan(t, p, r, 0, 7, 8, changesOf(p, 3, cell)) {
				if x.Slot != 1 {
					t.Fatalf("%v: the cell %d goes to the slot %d", p, x.Drive, x.Slot)
				}
			}
		}
		checkPlan(t, p, r, 0, 7, 8, changesOf(p, 3, allCells(p)...))
	}
}

// Any cells are missing, up to R + 1 of them, whether a drive is wiped or holds something else.
func TestP13_1MissingCells(t *testing.T) {
	for _, p := range few() {
		n, throw := p.K+p.R, dice(p.K)
		r := whole(p, 7, some(p.K*p.Cell, 5))
		for many := range min(p.R+1, n) + 1 {
			if n > 8 && many > 2 {
				continue
			}
			choices(n, many, func(missing []int) {
				wiped := r.without(missing...)
				over := slices.Clone(r)
				for _, drive := range missing {
					over[drive] = [2]content{contentOf(slotOf(1, drive, same(p, 6), some(p.Cell, 1))), contentOf(slotOf(2, drive, same(p, 7), some(p.Cell, 2)))}
				}
				for _, left := range []known{wiped, over} {
					for _, l := range [][]api.Change{changesOf(p, 1, 0), changesOf(p, 2, p.K-1), changesOf(p, 3, someCells(p, &throw)...), changesOf(p, 4, allCells(p)...)} {
						puts := checkPlan(t, p, left, 0, 7, 8, l)
						if lost := puts == nil; lost != (many > p.R) {
							t.Fatalf("%v: without the cells %v the update is %v", p, missing, puts)
						}
					}
				}
			})
		}
	}
}

// By the most drives: runs of missing cells, as many as may be and one more, from each drive on.
func TestP13_1RunsOfMissingCells(t *testing.T) {
	p := api.Params{K: 12, R: 4, Cell: 64, Rows: 256}
	r := whole(p, most-1, some(p.K*p.Cell, 6))
	for first := range 16 {
		for _, many := range []int{3, 4, 5} {
			left := slices.Clone(r)
			for i := range many {
				left = left.without((first + i) % 16)
			}
			throw := dice(first)
			puts := checkPlan(t, p, left, 255, most-1, most, changesOf(p, many, someCells(p, &throw)...))
			if lost := puts == nil; lost != (many == 5) {
				t.Fatalf("without %d cells from %d on the update is %v", many, first, puts)
			}
		}
	}
}

// What only looks like a version is none: one of the other kind, of other drives, one that only Cells have.
func TestP13_1LostVersions(t *testing.T) {
	for _, p := range few() {
		n, data := p.K+p.R, some(p.K*p.Cell, 4)
		desc := blank(p).holding(p, 0, 2, same(p, 7), data)
		next := whole(p, 7, data).holding(p, 0, 1, with(same(p, 7), 8, n-1), data) // but for one the cells are of 7, the stripe is of 8
		others := blank(p)
		for drive := range n {
			others[drive][1] = contentOf(slotOf(1, (drive+1)%n, same(p, 7), some(p.Cell, 1)))
		}
		if n == 1 {
			others = blank(p)
		}
		for i, r := range []known{blank(p), desc, next, others} {
			if puts := checkPlan(t, p, r, 0, 7, 9, changesOf(p, 1, 0)); puts != nil {
				t.Fatalf("%v: an update of the row %d is %v", p, i, puts)
			}
		}
	}
}
