package stripe

import (
	"bytes"
	"slices"
	"testing"

	"twoslot/api"
)

// exampleD is the data of the examples.
func exampleD() []byte { return append(filled(16, 1), filled(16, 2)...) }

func TestP12_1Examples(t *testing.T) {
	p := exampleP()
	puts, _ := Full(p, blank(p).row(), 3, 1, 0, 7, exampleD())
	row := behind(blank(p).row(), puts)
	if v, is, err := Vector(p, row, 1, 7); !slices.Equal(v, []int{7, 7, 7}) || !is || err != api.OK {
		t.Fatalf("Vector is %v, %v, %d", v, is, err)
	}
	if numbers, err := Present(p, row, 1, 7); !slices.Equal(numbers, []int{0, 1, 2}) || err != api.OK {
		t.Fatalf("Present is %v, %d", numbers, err)
	}
	row[0] = api.Pair{}
	if numbers, err := Present(p, row, 1, 7); !slices.Equal(numbers, []int{1, 2}) || err != api.OK {
		t.Fatalf("Present with the drive 0 wiped is %v, %d", numbers, err)
	}
}

func TestP12_2Examples(t *testing.T) {
	p := exampleP()
	puts, _ := Full(p, blank(p).row(), 3, 1, 0, 7, exampleD())
	row := behind(blank(p).row(), puts)
	for wiped := range 2 {
		if data, err := Read(p, row, 1, 7); !bytes.Equal(data, exampleD()) || err != api.OK {
			t.Fatalf("Read with %d drives wiped is %v, %d", wiped, data, err)
		}
		if cells, err := Cells(p, row, 1, 7); !sameCells(cells, [][]byte{filled(16, 1), filled(16, 2), filled(16, 123)}) || err != api.OK {
			t.Fatalf("Cells with %d drives wiped are %v, %d", wiped, cells, err)
		}
		row[wiped] = api.Pair{}
	}
	for _, x := range []struct {
		kind    uint8
		version int
	}{{1, 7}, {2, 7}, {1, 8}} {
		data, err := Read(p, row, x.kind, x.version)
		cells, also := Cells(p, row, x.kind, x.version)
		if data != nil || cells != nil || err != api.ErrLost || also != api.ErrLost {
			t.Fatalf("of one cell kind %d, version %d are read as %v, %d and %v, %d", x.kind, x.version, data, err, cells, also)
		}
	}
}

// Any row is asked for any version, told or not, of both kinds.
func TestP12_1AskedInMixedRows(t *testing.T) {
	mixedRows(150, func(p api.Params, r known, _ *dice) {
		for _, version := range versions() {
			checkAsked(t, p, r, 1, version)
			checkAsked(t, p, r, 2, version)
		}
	})
}

func TestP12_1AskedByEveryParams(t *testing.T) {
	every(func(p api.Params) {
		kind, version := uint8(1+(p.K+p.Cell)%2), []int{1, most}[p.Cell/2%2]
		data := some(p.K*p.Cell, p.K+17*p.R)
		r := whole(p, kind, version, data)
		checkAsked(t, p, r, kind, version)
		checkAsked(t, p, r, 3-kind, version)
		if got, err := Read(p, r.row(), kind, version); !bytes.Equal(got, data) || err != api.OK {
			t.Fatalf("%v: a whole stripe is read as %v, %d", p, got, err)
		}
	})
}

func TestP12_1BlankRows(t *testing.T) {
	for _, p := range few() {
		for _, r := range []known{blank(p), slices.Repeat(known{{{bytes: []byte{}}, {}}}, p.K+p.R)} {
			for _, kind := range []uint8{1, 2} {
				for _, version := range versions() {
					v, is, err := Vector(p, r.row(), kind, version)
					numbers, also := Present(p, r.row(), kind, version)
					if v != nil || is || err != api.OK || len(numbers) != 0 || also != api.OK {
						t.Fatalf("%v: a blank row tells %v, %v, %d and %v, %d", p, v, is, err, numbers, also)
					}
					checkAsked(t, p, r, kind, version)
				}
			}
		}
	}
}

// One slot is enough to tell a version, wherever it is; and its own cell is there.
func TestP12_1ToldByOneSlot(t *testing.T) {
	for _, p := range few() {
		n := p.K + p.R
		for drive := range n {
			for number := range 2 {
				v := with(same(p, 4), 9, n-1-drive)
				r := blank(p)
				r[drive][number] = contentOf(slotOf(2, drive, v, some(p.Cell, drive)))
				got, is, err := Vector(p, r.row(), 2, 9)
				if !slices.Equal(got, v) || !is || err != api.OK {
					t.Fatalf("%v: the slot %d of the drive %d tells %v, %v, %d", p, number, drive, got, is, err)
				}
				if numbers, err := Present(p, r.row(), 2, 9); !slices.Equal(numbers, []int{drive}) || err != api.OK {
					t.Fatalf("%v: of the slot %d of the drive %d there are %v, %d", p, number, drive, numbers, err)
				}
				for _, version := range []int{4, 5, 9} {
					checkAsked(t, p, r, 1, version)
					checkAsked(t, p, r, 2, version)
				}
			}
		}
	}
}

// It is the Stripe that tells a version: neither the Cell nor another version of the vector does.
func TestP12_1NotToldByCells(t *testing.T) {
	for _, p := range few() {
		n := p.K + p.R
		if n == 1 {
			continue
		}
		r := whole(p, 1, 4, some(p.K*p.Cell, 1)).holding(p, 0, 1, with(same(p, 4), 9, n-1), some(p.K*p.Cell, 2))
		if v, is, err := Vector(p, r.row(), 1, 4); v != nil || is || err != api.OK {
			t.Fatalf("%v: Vector of what only Cells have is %v, %v, %d", p, v, is, err)
		}
		if numbers, err := Present(p, r.row(), 1, 4); len(numbers) != 0 || err != api.OK {
			t.Fatalf("%v: Present of what only Cells have is %v, %d", p, numbers, err)
		}
		if _, err := Read(p, r.row(), 1, 4); err != api.ErrLost {
			t.Fatalf("%v: Read of what only Cells have is %d", p, err)
		}
	}
}

// Slots of the other kind, of another drive, and what is nearly a slot, tell nothing and hold no cell.
func TestP12_1OthersTellNothing(t *testing.T) {
	for _, p := range few() {
		n := p.K + p.R
		for drive := range n {
			others := append(noSlots(p, 1, drive, same(p, 7)), contentOf(slotOf(2, drive, same(p, 7), some(p.Cell, 1))))
			if n > 1 {
				others = append(others, contentOf(slotOf(1, (drive+1)%n, same(p, 7), some(p.Cell, 1))))
			}
			for _, other := range others {
				for number := range 2 {
					r := blank(p)
					r[drive][number] = other
					checkAsked(t, p, r, 1, 7)
					r = whole(p, 1, 7, some(p.K*p.Cell, 3))
					r[drive] = [2]content{}
					r[drive][number] = other
					checkAsked(t, p, r, 1, 7)
					if numbers, err := Present(p, r.row(), 1, 7); slices.Contains(numbers, drive) || len(numbers) != n-1 || err != api.OK {
						t.Fatalf("%v: with %v on the drive %d there are %v, %d", p, other.bytes, drive, numbers, err)
					}
				}
			}
		}
	}
}

// Of several slots that tell a version with unlike vectors the first one's is told: by drives, of one drive the slot 0 first.
func TestP12_1OfUnlikeVectorsTheFirst(t *testing.T) {
	p := api.Params{K: 2, R: 2, Cell: 16, Rows: 8}
	a, b, c := []int{9, 4, 4, 4}, []int{4, 9, 4, 9}, []int{9, 9, 9, 9}
	at := func(drive int, v []int) content { return contentOf(slotOf(1, drive, v, some(16, drive+v[drive]))) }
	for i, x := range []struct {
		r    known
		want []int
	}{
		{known{{at(0, a), {}}, {at(1, b), {}}, {}, {}}, a},
		{known{{{}, at(0, a)}, {at(1, b), {}}, {}, {}}, a},
		{known{{}, {at(1, b), at(1, a)}, {at(2, c), {}}, {}}, b},
		{known{{}, {at(1, a), at(1, b)}, {at(2, c), {}}, {}}, a},
		{known{{}, {}, {}, {at(3, c), at(3, b)}}, c},
		{known{{}, {}, {at(2, same(p, 8)), at(2, b)}, {at(3, c), {}}}, b},
		{known{{contentOf(slotOf(2, 0, a, some(16, 1))), {}}, {at(1, c), {}}, {at(2, b), {}}, {}}, c},
		{known{{contentOf(slotOf(1, 1, a, some(16, 1))), {}}, {}, {at(2, b), {}}, {at(3, c), {}}}, b},
	} {
		v, is, err := Vector(p, x.r.row(), 1, 9)
		if !slices.Equal(v, x.want) || !is || err != api.OK {
			t.Fatalf("the vector of the case %d is %v, %v, %d, want %v", i, v, is, err, x.want)
		}
		checkAsked(t, p, x.r, 1, 9)
		checkAsked(t, p, x.r, 2, 9)
	}
}

// Cells that an elder version of the stripe wrote are there, where the vector names them.
func TestP12_2CellsOfElderVersions(t *testing.T) {
	for _, p := range few() {
		n := p.K + p.R
		old, now := some(p.K*p.Cell, 1), some(p.K*p.Cell, 1)
		for i := range p.Cell {
			now[i] ^= 0x5a // the cell 0 changes, and all parity cells
		}
		v := with(same(p, 4), 6, 0)
		for drive := p.K; drive < n; drive++ {
			v[drive] = 6
		}
		r := whole(p, 1, 4, old)
		for drive, cell := range cellsOf(p, now) {
			if v[drive] == 6 {
				r[drive][1] = contentOf(slotOf(1, drive, v, cell))
			}
		}
		checkAsked(t, p, r, 1, 6)
		numbers, _ := Present(p, r.row(), 1, 6)
		data, err := Read(p, r.row(), 1, 6)
		elder, also := Read(p, r.row(), 1, 4)
		if len(numbers) != n || !bytes.Equal(data, now) || err != api.OK || !bytes.Equal(elder, old) || also != api.OK {
			t.Fatalf("%v: of two versions in one row %v are there, %v, %d and %v, %d are read", p, numbers, data, err, elder, also)
		}
		for many := range n + 1 {
			if n > 5 && many > p.R+1 {
				break
			}
			choices(n, many, func(wiped []int) {
				if many < 3 || n <= 5 {
					checkAsked(t, p, r.without(wiped...), 1, 6)
				}
			})
		}
	}
}

// Where both slots hold the cell's version the slot 0 is read.
func TestP12_2OfBothTheFirst(t *testing.T) {
	for _, p := range few() {
		first, second := some(p.K*p.Cell, 1), some(p.K*p.Cell, 2)
		r := whole(p, 1, 5, first).holding(p, 1, 1, same(p, 5), second)
		if data, err := Read(p, r.row(), 1, 5); !bytes.Equal(data, first) || err != api.OK {
			t.Fatalf("%v: of two alike versions %v, %d is read", p, data, err)
		}
		for drive := range r {
			r[drive][0], r[drive][1] = r[drive][1], r[drive][0]
		}
		if data, err := Read(p, r.row(), 1, 5); !bytes.Equal(data, second) || err != api.OK {
			t.Fatalf("%v: of two alike versions, turned round, %v, %d is read", p, data, err)
		}
	}
}

// Of cells that do not fit to one another the first K decide, and all others are made of them.
func TestP12_2TheFirstCellsDecide(t *testing.T) {
	for _, p := range few() {
		if p.R == 0 {
			continue
		}
		data := some(p.K*p.Cell, 7)
		r := whole(p, 1, 5, data)
		last := p.K + p.R - 1
		r[last][0] = contentOf(slotOf(1, last, same(p, 5), some(p.Cell, 99)))
		checkAsked(t, p, r, 1, 5)
		if cells, err := Cells(p, r.row(), 1, 5); !sameCells(cells, cellsOf(p, data)) || err != api.OK {
			t.Fatalf("%v: with a wrong parity cell the cells are %v, %d", p, cells, err)
		}
		r[0] = [2]content{}
		checkAsked(t, p, r, 1, 5)
	}
}

// Data of zeros are no missing cells.
func TestP12_2Zeros(t *testing.T) {
	for _, p := range few() {
		zeros := make([]byte, p.K*p.Cell)
		for _, kind := range []uint8{1, 2} {
			r := whole(p, kind, most, zeros)
			checkAsked(t, p, r, kind, most)
			if data, err := Read(p, r.row(), kind, most); !bytes.Equal(data, zeros) || err != api.OK {
				t.Fatalf("%v: zeros are read as %v, %d", p, data, err)
			}
		}
	}
}

// From any K cells of a whole stripe all of it is read; of fewer it is ErrLost.
func TestP12_6AnyOfTheCells(t *testing.T) {
	for _, p := range few() {
		n, data := p.K+p.R, some(p.K*p.Cell, 3)
		r := whole(p, 2, 7, data)
		cells := cellsOf(p, data)
		for many := range n + 1 {
			if n > 5 && many > p.R+1 && many < n-1 {
				continue
			}
			choices(n, many, func(wiped []int) {
				row := r.without(wiped...).row()
				numbers, _ := Present(p, row, 2, 7)
				got, err := Read(p, row, 2, 7)
				all, also := Cells(p, row, 2, 7)
				switch {
				case len(numbers) != n-many:
					t.Fatalf("%v: with %v wiped there are %v", p, wiped, numbers)
				case many <= p.R && (!bytes.Equal(got, data) || err != api.OK || !sameCells(all, cells) || also != api.OK):
					t.Fatalf("%v: with %v wiped %v, %d and %v, %d are read", p, wiped, got, err, all, also)
				case many > p.R && (got != nil || err != api.ErrLost || all != nil || also != api.ErrLost):
					t.Fatalf("%v: with %v wiped %v, %d and %v, %d are read", p, wiped, got, err, all, also)
				}
			})
		}
	}
}

// Likewise by every K and R, with the first, the last and all cells between missing in a run.
func TestP12_6ByEveryCode(t *testing.T) {
	every(func(p api.Params) {
		if p.Cell != 32 && p.Cell != 64 {
			return
		}
		n, data := p.K+p.R, some(p.K*p.Cell, p.K)
		puts, err := Full(p, blank(p).row(), 0, 1, 0, 1, data)
		if err != api.OK {
			t.Fatalf("%v: Full is %d", p, err)
		}
		for from := range n {
			for many := range p.R + 2 {
				row := behind(blank(p).row(), puts)
				for i := range min(many, n) {
					row[(from+i)%n] = api.Pair{}
				}
				got, err := Read(p, row, 1, 1)
				if many <= p.R && (!bytes.Equal(got, data) || err != api.OK) || many > p.R && (got != nil || err != api.ErrLost) {
					t.Fatalf("%v: with %d wiped from %d on %v, %d is read", p, many, from, got, err)
				}
			}
		}
	})
}

// A cell is missing also where something else stands in both of its slots.
func TestP12_6MissingUnderOthers(t *testing.T) {
	for _, p := range few() {
		n, data := p.K+p.R, some(p.K*p.Cell, 3)
		for drive := range n {
			for _, other := range []content{
				{bytes: filled(sizeOf(p), 255)},
				contentOf(slotOf(2, drive, same(p, 7), some(p.Cell, 1))),
				contentOf(slotOf(1, drive, same(p, 6), some(p.Cell, 2))),
				contentOf(slotOf(1, drive, same(p, 8), some(p.Cell, 3))),
			} {
				r := whole(p, 1, 7, data)
				r[drive] = [2]content{other, other}
				checkAsked(t, p, r, 1, 7)
				got, err := Read(p, r.row(), 1, 7)
				if p.R > 0 && (!bytes.Equal(got, data) || err != api.OK) || p.R == 0 && err != api.ErrLost {
					t.Fatalf("%v: with %v on the drive %d %v, %d is read", p, other.bytes, drive, got, err)
				}
			}
		}
	}
}
