package stripe

import (
	"bytes"
	"slices"
	"testing"

	"twoslot/api"
)

func TestP12_3Examples(t *testing.T) {
	p := exampleP()
	head := func(drive, version byte) []byte {
		v := []byte{0, 0, 0, version}
		return slices.Concat([]byte{84, 50, 1, drive}, v, v, v, v, v)
	}
	cells := [][]byte{filled(16, 1), filled(16, 2), filled(16, 123)}
	want := func(slot int, version byte) []api.Put {
		var all []api.Put
		for drive, cell := range cells {
			all = append(all, api.Put{Drive: drive, Row: 3, Slot: slot, Bytes: append(head(byte(drive), version), cell...)})
		}
		return all
	}
	puts, err := Full(p, blank(p).row(), 3, 1, 0, 7, exampleD())
	if err != api.OK || !samePuts(puts, want(0, 7)) {
		t.Fatalf("Full is %v, %d", puts, err)
	}
	next, err := Full(p, behind(blank(p).row(), puts), 3, 1, 7, 8, exampleD())
	if err != api.OK || !samePuts(next, want(1, 8)) {
		t.Fatalf("Full of the next is %v, %d", next, err)
	}
}

func TestP12_4Examples(t *testing.T) {
	p := exampleP()
	puts, _ := Full(p, blank(p).row(), 3, 1, 0, 7, exampleD())
	row := behind(blank(p).row(), puts)
	if mends, err := Mend(p, row, 3, 1, 0, 7); len(mends) != 0 || err != api.OK {
		t.Fatalf("Mend of a whole stripe is %v, %d", mends, err)
	}
	row[0] = api.Pair{}
	if mends, err := Mend(p, row, 3, 1, 0, 7); !samePuts(mends, puts[:1]) || err != api.OK {
		t.Fatalf("Mend is %v, %d", mends, err)
	}
}

func TestP12_3FullByEveryParams(t *testing.T) {
	every(func(p api.Params) {
		data := some(p.K*p.Cell, p.Cell)
		number := []int{0, p.Rows - 1}[p.Cell%2]
		for _, kind := range []uint8{1, 2} {
			checkFull(t, p, blank(p), number, kind, 0, most, data)
			checkFull(t, p, whole(p, kind, 1, data), number, kind, 1, 2, data)
		}
	})
}

// Into whatever row, keeping whatever is told there or not, of either kind.
func TestP12_3FullInMixedRows(t *testing.T) {
	mixedRows(150, func(p api.Params, r known, throw *dice) {
		data := some(p.K*p.Cell, throw.below(1000))
		for _, keep := range append(versions(), 0) {
			number := one(throw, []int{0, 1, p.Rows - 1})
			checkFull(t, p, r, number, 1, keep, one(throw, versions()), data)
			checkFull(t, p, r, number, 2, keep, one(throw, versions()), data)
		}
	})
}

func TestP12_4MendInMixedRows(t *testing.T) {
	mended := 0
	mixedRows(150, func(p api.Params, r known, throw *dice) {
		for _, version := range []int{1, 3, 5, 8, most} {
			for _, keep := range append(versions(), 0) {
				number := one(throw, []int{0, 1, p.Rows - 1})
				mended += len(checkMend(t, p, r, number, 1, keep, version))
				mended += len(checkMend(t, p, r, number, 2, keep, version))
			}
		}
	})
	if mended < 1000 {
		t.Fatalf("only %d cells were mended", mended)
	}
}

// What a new cell goes beside, case by case; the cells of drive 1 of an example are asked.
func TestP12_3IntoWhichSlot(t *testing.T) {
	p := exampleP()
	at := func(kind uint8, index, version int) content {
		return contentOf(slotOf(kind, index, same(p, version), some(16, version)))
	}
	other := content{bytes: filled(40, 255)}
	for i, x := range []struct {
		first, second content
		keep, want    int
	}{
		{content{}, content{}, 0, 0},
		{content{}, content{}, 4, 0},
		{at(1, 1, 4), content{}, 0, 1},
		{at(1, 1, 4), content{}, 4, 1},
		{content{}, at(1, 1, 4), 4, 0},
		{at(1, 1, 4), at(1, 1, 6), 0, 0},
		{at(1, 1, 6), at(1, 1, 4), 0, 1},
		{at(1, 1, 4), at(1, 1, 6), 4, 1},
		{at(1, 1, 6), at(1, 1, 4), 6, 1},
		{at(1, 1, 6), at(1, 1, 4), 4, 0},
		{at(1, 1, 4), at(1, 1, 6), 9, 0}, // nobody tells 9
		{at(1, 1, 4), at(1, 1, 4), 4, 1}, // the slot 0 is kept
		{at(1, 1, 4), at(1, 1, 4), 0, 0},
		{at(2, 1, 4), at(1, 1, 6), 4, 0}, // of the other kind nothing is kept
		{at(2, 1, 4), at(1, 1, 6), 6, 0},
		{at(1, 1, 4), at(2, 1, 6), 0, 0}, // but what is less goes, whatever the kinds
		{at(1, 1, 6), at(2, 1, 4), 0, 1},
		{at(1, 0, 4), at(1, 1, 6), 0, 0}, // of another drive: it holds nothing
		{at(1, 1, 6), at(1, 2, 9), 0, 1},
		{at(1, 1, 6), at(1, 2, 9), 9, 1},
		{at(1, 1, 6), other, 6, 1},
		{other, at(1, 1, 6), 6, 0},
		{other, other, 6, 0},
		{at(1, 1, 1), at(1, 1, most), most, 0},
		{at(1, 1, most), at(1, 1, 1), 1, 0},
	} {
		r := blank(p)
		r[1] = [2]content{x.first, x.second}
		if puts := checkFull(t, p, r, 5, 1, x.keep, 12, some(32, i)); puts[1].Slot != x.want {
			t.Fatalf("the cell of the case %d goes to the slot %d, want %d", i, puts[1].Slot, x.want)
		}
	}
}

// What a kept version names is not the same on every drive: each cell goes beside that one.
func TestP12_3KeptVectorUnlikeFromCellToCell(t *testing.T) {
	p := api.Params{K: 3, R: 1, Cell: 11, Rows: 8}
	v := []int{4, 6, 4, 6}
	at := func(drive, version int) content {
		return contentOf(slotOf(1, drive, same(p, version), some(11, version)))
	}
	told := func(drive int) content { return contentOf(slotOf(1, drive, v, some(11, 1))) }
	r := known{
		{at(0, 4), at(0, 6)},
		{at(1, 4), told(1)},
		{at(2, 6), at(2, 4)},
		{told(3), at(3, 4)},
	}
	// That of drive 0, which is uniform, comes first, and it is its vector by which 6 is kept.
	for i, want := range []int{0, 0, 1, 1} {
		if puts := checkFull(t, p, r, 0, 1, 6, 9, some(33, 2)); puts[i].Slot != want {
			t.Fatalf("the cell %d goes to the slot %d, want %d", i, puts[i].Slot, want)
		}
	}
	r[0][1] = at(0, 3)
	for i, want := range []int{1, 0, 0, 1} {
		if puts := checkFull(t, p, r, 0, 1, 6, 9, some(33, 2)); puts[i].Slot != want {
			t.Fatalf("the cell %d goes to the slot %d, want %d", i, puts[i].Slot, want)
		}
	}
}

// Every choice of missing cells is mended as the cells were, while there are enough.
func TestP12_4EveryChoiceOfMissing(t *testing.T) {
	for _, p := range few() {
		n, data := p.K+p.R, some(p.K*p.Cell, 5)
		for many := range n + 1 {
			if n > 5 && many > 2 && many < n-1 {
				continue
			}
			choices(n, many, func(wiped []int) {
				r := whole(p, 2, 7, data)
				puts, err := Mend(p, r.without(wiped...).row(), p.Rows-1, 2, 0, 7)
				if many > p.R {
					if puts != nil || err != api.ErrLost {
						t.Fatalf("%v: Mend of %v is %v, %d", p, wiped, puts, err)
					}
					return
				}
				var want []api.Put
				for _, drive := range wiped {
					want = append(want, api.Put{Drive: drive, Row: p.Rows - 1, Slot: 0, Bytes: r[drive][0].bytes})
				}
				if err != api.OK || !samePuts(puts, want) {
					t.Fatalf("%v: Mend of %v is %v, %d, want %v", p, wiped, puts, err, want)
				}
			})
		}
	}
}

// A cell is mended with its own version, and with the vector of the stripe's, also where an elder version had written it.
func TestP12_4MendedForTheStripe(t *testing.T) {
	p := api.Params{K: 3, R: 2, Cell: 11, Rows: 8}
	v := []int{4, 6, 4, 6, 6}
	data := some(33, 8)
	r := whole(p, 1, 4, data)
	for drive, cell := range cellsOf(p, data) {
		if v[drive] == 6 {
			r[drive][1] = contentOf(slotOf(1, drive, v, cell))
		}
	}
	choices(5, 2, func(wiped []int) {
		puts := checkMend(t, p, r.without(wiped...), 0, 1, 0, 6)
		for i, x := range puts {
			drive := wiped[i]
			if want := bytesOf(slotOf(1, drive, v, cellsOf(p, data)[drive])); x.Drive != drive || x.Slot != 0 || !bytes.Equal(x.Bytes, want) {
				t.Fatalf("with %v wiped %v is written, want %v", wiped, x, want)
			}
		}
	})
}

// A cell that is there under another stripe's version is not written again.
func TestP12_4NothingTwice(t *testing.T) {
	for _, p := range few() {
		v := with(same(p, 4), 6, 0)
		r := whole(p, 1, 4, some(p.K*p.Cell, 8))
		r[0][1] = contentOf(slotOf(1, 0, v, some(p.Cell, 1)))
		if puts, err := Mend(p, r.row(), 0, 1, 4, 6); len(puts) != 0 || err != api.OK {
			t.Fatalf("%v: Mend of what is there is %v, %d", p, puts, err)
		}
	}
}

// A mended cell goes beside what another version keeps; where nothing is kept, over what is less.
func TestP12_4IntoWhichSlot(t *testing.T) {
	p := exampleP()
	at := func(version int) content { return contentOf(slotOf(1, 1, same(p, version), some(16, version))) }
	for i, x := range []struct {
		first, second content
		keep, want    int
	}{
		{content{}, content{}, 0, 0},
		{content{}, content{}, 7, 0},
		{at(4), content{}, 4, 1},
		{content{}, at(4), 4, 0},
		{at(4), at(6), 0, 0},
		{at(4), at(6), 4, 1},
		{at(4), at(6), 6, 0},
		{at(4), at(6), 7, 0},
		{at(6), at(4), 0, 1},
		{at(6), at(4), 6, 1},
		{at(6), at(4), 4, 0},
		{at(6), at(6), 6, 1},
		{at(8), at(9), 9, 0},
		{at(8), at(9), 8, 1},
	} {
		r := whole(p, 1, 7, exampleD())
		r[1] = [2]content{x.first, x.second}
		if puts := checkMend(t, p, r, 0, 1, x.keep, 7); len(puts) != 1 || puts[0].Slot != x.want {
			t.Fatalf("of the case %d %v is written, want the slot %d", i, puts, x.want)
		}
	}
}

// The row's number goes into each raw write, and into nothing else.
func TestP12_3EveryNumber(t *testing.T) {
	for _, p := range few() {
		data := some(p.K*p.Cell, 1)
		first := checkFull(t, p, blank(p), 0, 1, 0, 3, data)
		for number := range p.Rows {
			puts, err := Full(p, blank(p).row(), number, 1, 0, 3, data)
			for i := range puts {
				if puts[i].Row != number {
					t.Fatalf("%v: Full in the row %d writes into the row %d", p, number, puts[i].Row)
				}
				puts[i].Row = 0
			}
			if err != api.OK || !samePuts(puts, first) {
				t.Fatalf("%v: Full in the row %d is %v, %d", p, number, puts, err)
			}
			if p.R > 0 {
				mends := checkMend(t, p, whole(p, 1, 3, data).without(p.K), number, 1, 0, 3)
				if len(mends) != 1 || mends[0].Row != number {
					t.Fatalf("%v: Mend in the row %d is %v", p, number, mends)
				}
			}
		}
	}
}
