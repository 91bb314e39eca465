package stripe

import (
	"bytes"
	"slices"
	"testing"

	"twoslot/api"
)

// lawful is a mixed row in which no slot has a version from one on, and no pair holds one version of a kind twice.
func lawful(r known, kind uint8, below int) known {
	made := slices.Clone(r)
	for drive := range made {
		for number, c := range made[drive] {
			if c.slot.Kind != 0 && c.slot.Stripe >= below {
				made[drive][number] = content{}
			}
		}
		zero, one := made[drive][0], made[drive][1]
		if zero.of(kind, drive) && one.of(kind, drive) && zero.slot.Cell == one.slot.Cell {
			made[drive][1] = content{}
		}
	}
	return made
}

// kept is what of a version must stay: its vector, and the slots in which its cells are.
type kept struct {
	kind    uint8
	version int
	vector  []int
	numbers []int
	slots   []api.Put
	data    []byte
	err     api.Errno
}

func keptOf(t *testing.T, p api.Params, r known, kind uint8, version int) kept {
	t.Helper()
	k := kept{kind: kind, version: version}
	if version == 0 {
		return k
	}
	k.vector, _ = r.wantVector(kind, version)
	k.numbers, _ = r.wantThere(kind, version)
	for _, drive := range k.numbers {
		number, _ := r.wantHeld(kind, drive, k.vector[drive])
		k.slots = append(k.slots, api.Put{Drive: drive, Slot: number, Bytes: r[drive][number].bytes})
	}
	k.data, k.err = Read(p, r.row(), kind, version)
	return k
}

// stays tells that in a row behind raw writes all that was there is there.
func (k kept) stays(t *testing.T, p api.Params, row []api.Pair) {
	t.Helper()
	if k.version == 0 || k.vector == nil {
		return
	}
	v, is, err := Vector(p, row, k.kind, k.version)
	if !is || err != api.OK || !slices.Equal(v, k.vector) {
		t.Fatalf("%v: the vector of the kept version %d was %v, and is %v, %v, %d", p, k.version, k.vector, v, is, err)
	}
	numbers, err := Present(p, row, k.kind, k.version)
	for _, drive := range k.numbers {
		if err != api.OK || !slices.Contains(numbers, drive) {
			t.Fatalf("%v: of the kept version %d there were %v, there are %v, %d", p, k.version, k.numbers, numbers, err)
		}
	}
	for _, x := range k.slots {
		if !bytes.Equal(row[x.Drive][x.Slot], x.Bytes) {
			t.Fatalf("%v: the cell %d of the kept version %d is overwritten", p, x.Drive, k.version)
		}
	}
}

// reads tells that it stays, and that it is read as it was.
func (k kept) reads(t *testing.T, p api.Params, row []api.Pair) {
	t.Helper()
	k.stays(t, p, row)
	if k.version == 0 || k.err != api.OK {
		return
	}
	if data, err := Read(p, row, k.kind, k.version); err != api.OK || !bytes.Equal(data, k.data) {
		t.Fatalf("%v: the kept version %d is read as %v, %d, and was as %v", p, k.version, data, err, k.data)
	}
}

func TestP12_7FullOneByOne(t *testing.T) {
	held := 0
	mixedRows(60, func(p api.Params, r known, throw *dice) {
		for _, kind := range []uint8{1, 2} {
			r, data := lawful(r, kind, 9), some(p.K*p.Cell, throw.below(1000))
			for _, keep := range []int{0, 2, 3, 5, 8} {
				k := keptOf(t, p, r, kind, keep)
				held += len(k.numbers)
				puts := checkFull(t, p, r, 0, kind, keep, 9, data)
				for made := range len(puts) + 1 {
					row := behind(r.row(), puts[:made])
					k.reads(t, p, row)
					checkReadBehind(t, p, row, kind, 9, made, data)
				}
			}
		}
	})
	if held < 1000 {
		t.Fatalf("only %d cells were to be kept", held)
	}
}

// checkReadBehind tells that a version of which so many cells were written is read, or is lost.
func checkReadBehind(t *testing.T, p api.Params, row []api.Pair, kind uint8, version, made int, data []byte) {
	t.Helper()
	numbers, err := Present(p, row, kind, version)
	if err != api.OK || len(numbers) != made || made > 0 && numbers[made-1] != made-1 {
		t.Fatalf("%v: behind %d raw writes the cells %v, %d are there", p, made, numbers, err)
	}
	got, err := Read(p, row, kind, version)
	if made >= p.K && (err != api.OK || !bytes.Equal(got, data)) || made < p.K && (err != api.ErrLost || got != nil) {
		t.Fatalf("%v: behind %d raw writes %v, %d is read", p, made, got, err)
	}
}

// Behind all of them nothing is left to be mended, and the whole stripe can lose any R cells.
func TestP12_7FullIsWhole(t *testing.T) {
	mixedRows(10, func(p api.Params, r known, throw *dice) {
		r, data := lawful(r, 1, 9), some(p.K*p.Cell, throw.below(1000))
		row := behind(r.row(), checkFull(t, p, r, 0, 1, 5, 9, data))
		if puts, err := Mend(p, row, 0, 1, 5, 9); len(puts) != 0 || err != api.OK {
			t.Fatalf("%v: behind Full %v, %d is to be mended", p, puts, err)
		}
		wiped := slices.Clone(row)
		for range p.R {
			wiped[throw.below(len(wiped))] = api.Pair{}
		}
		if got, err := Read(p, wiped, 1, 9); err != api.OK || !bytes.Equal(got, data) {
			t.Fatalf("%v: behind Full and wipes %v, %d is read", p, got, err)
		}
	})
}

// While a version is mended it is read as it was, and then all of its cells are there; this in any row.
func TestP12_7MendOneByOne(t *testing.T) {
	mended := 0
	mixedRows(100, func(p api.Params, r known, _ *dice) {
		for _, version := range []int{3, 5, 8, most} {
			for _, keep := range []int{0, 3, 5, 8, version} {
				puts := checkMend(t, p, r, 0, 1, keep, version)
				k := keptOf(t, p, r, 1, version)
				if k.err != api.OK {
					continue
				}
				mended += len(puts)
				cells, _ := Cells(p, r.row(), 1, version)
				for made := range len(puts) + 1 {
					k.reads(t, p, behind(r.row(), puts[:made]))
				}
				row := behind(r.row(), puts)
				numbers, _ := Present(p, row, 1, version)
				after, err := Cells(p, row, 1, version)
				again, also := Mend(p, row, 0, 1, keep, version)
				if len(numbers) != p.K+p.R || !sameCells(after, cells) || err != api.OK || len(again) != 0 || also != api.OK {
					t.Fatalf("%v: behind Mend of %d in%s %v are there, %v, %d is read, %v, %d is to be mended", p, version, r.told(), numbers, after, err, again, also)
				}
			}
		}
	})
	if mended < 500 {
		t.Fatalf("only %d cells were mended", mended)
	}
}

// Of what is kept all cells stay that were there. (A mended cell may be one of the kept version's, too: in a row whose cells do not fit to one another, as these, it may be read otherwise then.)
func TestP12_7MendKeeps(t *testing.T) {
	beside := 0
	mixedRows(150, func(p api.Params, r known, _ *dice) {
		r = lawful(r, 1, most+1)
		for _, version := range []int{3, 5, 8, most} {
			for _, keep := range []int{3, 5, 8, most} {
				k := keptOf(t, p, r, 1, keep)
				puts := checkMend(t, p, r, 0, 1, keep, version)
				for made := range len(puts) + 1 {
					k.stays(t, p, behind(r.row(), puts[:made]))
				}
				for _, x := range puts {
					if slices.Contains(k.numbers, x.Drive) {
						beside++
					}
				}
			}
		}
	})
	if beside < 100 {
		t.Fatalf("only %d cells were mended beside kept ones", beside)
	}
}

// Where all cells are those of stripes that were written whole, and then in part, both versions are read as they were.
func TestP12_7MendOfTwoVersions(t *testing.T) {
	for _, p := range few() {
		n, old, now := p.K+p.R, some(p.K*p.Cell, 1), some(p.K*p.Cell, 1)
		for i := range p.Cell {
			now[i] ^= 0x5a
		}
		v := with(same(p, 4), 6, 0)
		for drive := p.K; drive < n; drive++ {
			v[drive] = 6
		}
		r := whole(p, 2, 4, old)
		for drive, cell := range cellsOf(p, now) {
			if v[drive] == 6 {
				r[drive][1] = contentOf(slotOf(2, drive, v, cell))
			}
		}
		for many := range min(p.R, 2) + 1 {
			choices(n, many, func(wiped []int) {
				left := r.without(wiped...)
				for _, x := range [][2]int{{6, 4}, {4, 6}, {6, 0}, {4, 0}, {6, 6}} {
					version, keep := x[0], x[1]
					if _, told := left.wantVector(2, version); !told {
						continue // all slots that told it were wiped, those of the changed cells
					}
					k, m := keptOf(t, p, left, 2, keep), keptOf(t, p, left, 2, version)
					puts := checkMend(t, p, left, 1, 2, keep, version)
					for made := range len(puts) + 1 {
						row := behind(left.row(), puts[:made])
						k.reads(t, p, row)
						m.reads(t, p, row)
					}
				}
			})
		}
	}
}

// history is a row that one stripe stands in, and what of it was committed last.
type history struct {
	p            api.Params
	kind         uint8
	row          []api.Pair
	before, last int
	data         []byte
}

// shows tells that what was committed last is read.
func (h *history) shows(t *testing.T) {
	t.Helper()
	if h.last == 0 {
		return
	}
	if data, err := Read(h.p, h.row, h.kind, h.last); err != api.OK || !bytes.Equal(data, h.data) {
		t.Fatalf("%v: the version %d is read as %v, %d, want %v", h.p, h.last, data, err, h.data)
	}
}

// make makes some raw writes, one by one.
func (h *history) make(t *testing.T, puts []api.Put) {
	t.Helper()
	for _, x := range puts {
		h.row = behind(h.row, []api.Put{x})
		h.shows(t)
	}
}

// finish makes what was committed last whole.
func (h *history) finish(t *testing.T) {
	t.Helper()
	if h.last == 0 {
		return
	}
	puts, err := Mend(h.p, h.row, 0, h.kind, h.before, h.last)
	if err != api.OK {
		t.Fatalf("%v: Mend of the version %d is %d", h.p, h.last, err)
	}
	h.make(t, puts)
	if numbers, err := Present(h.p, h.row, h.kind, h.last); len(numbers) != h.p.K+h.p.R || err != api.OK {
		t.Fatalf("%v: behind Mend %v, %d are there of the version %d", h.p, numbers, err, h.last)
	}
}

// A stripe is written again and again, cut off after any raw write, wiped and mended: what was committed last, by its K-th raw write, is read all the time.
func TestP12_7SeriesOfVersions(t *testing.T) {
	for seed := range 120 {
		throw := dice(seed)
		p := one(&throw, few())
		h := &history{p: p, kind: uint8(1 + throw.below(2)), row: blank(p).row()}
		for version := 1; version <= 25; version++ {
			data := some(p.K*p.Cell, seed*100+version)
			puts, err := Full(p, h.row, 0, h.kind, h.last, version, data)
			if err != api.OK || len(puts) != p.K+p.R {
				t.Fatalf("%v: Full of the version %d is %v, %d", p, version, puts, err)
			}
			cut := throw.below(len(puts) + 1)
			h.make(t, puts[:min(cut, p.K)])
			if cut >= p.K {
				h.before, h.last, h.data = h.last, version, data
				h.make(t, puts[p.K:cut])
			}
			h.finish(t)
			for range throw.below(p.R + 1) {
				h.row[throw.below(len(h.row))] = api.Pair{}
			}
			h.shows(t)
			h.finish(t)
		}
	}
}
