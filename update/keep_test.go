package update

import (
	"bytes"
	"slices"
	"testing"

	"twoslot/api"
	"twoslot/codec"
	"twoslot/stripe"
)

// lawful is a mixed row in which no slot has a version from one on, and no pair holds one version of KindData twice.
func lawful(r known, below int) known {
	made := slices.Clone(r)
	for drive := range made {
		for number, c := range made[drive] {
			if c.slot.Kind != 0 && c.slot.Stripe >= below {
				made[drive][number] = content{}
			}
		}
		zero, one := made[drive][0], made[drive][1]
		if zero.of(1, drive) && one.of(1, drive) && zero.slot.Cell == one.slot.Cell {
			made[drive][1] = content{}
		}
	}
	return made
}

// kept is what of a version must stay: its vector, the slots in which its cells are, its data.
type kept struct {
	version int
	vector  []int
	numbers []int
	slots   []api.Put
	data    []byte
}

func keptOf(p api.Params, r known, version int) kept {
	k := kept{version: version, vector: r.wantVector(version), data: r.wantData(p, version)}
	k.numbers, _ = r.wantThere(version)
	for _, drive := range k.numbers {
		number, _ := r.wantHeld(drive, k.vector[drive])
		k.slots = append(k.slots, api.Put{Drive: drive, Slot: number, Bytes: r[drive][number].bytes})
	}
	return k
}

// stays tells that in a row behind raw writes all that was there is there, and is read as it was.
func (k kept) stays(t *testing.T, p api.Params, row []api.Pair) {
	t.Helper()
	v, is, err := stripe.Vector(p, row, 1, k.version)
	if !is || err != api.OK || !slices.Equal(v, k.vector) {
		t.Fatalf("%v: the vector of the version %d was %v, and is %v, %v, %d", p, k.version, k.vector, v, is, err)
	}
	if numbers, err := stripe.Present(p, row, 1, k.version); err != api.OK || !slices.Equal(numbers, k.numbers) {
		t.Fatalf("%v: of the version %d there were %v, there are %v, %d", p, k.version, k.numbers, numbers, err)
	}
	for _, x := range k.slots {
		if !bytes.Equal(row[x.Drive][x.Slot], x.Bytes) {
			t.Fatalf("%v: the cell %d of the version %d is overwritten", p, x.Drive, k.version)
		}
	}
	if data, err := stripe.Read(p, row, 1, k.version); err != api.OK || !bytes.Equal(data, k.data) {
		t.Fatalf("%v: the version %d is read as %v, %d, and was as %v", p, k.version, data, err, k.data)
	}
}

// oneByOne makes the raw writes of an update, looks at what is kept behind each of them, and at the new version behind all.
func oneByOne(t *testing.T, p api.Params, r known, from, to int, l []api.Change) []api.Pair {
	t.Helper()
	puts, k := checkPlan(t, p, r, 0, from, to, l), keptOf(p, r, from)
	if len(puts) != len(l)+p.R {
		t.Fatalf("%v: an update of %d cells makes %d raw writes", p, len(l), len(puts))
	}
	for many := range len(puts) + 1 {
		k.stays(t, p, behind(r.row(), puts[:many]))
	}
	row := behind(r.row(), puts)
	checkRenewed(t, p, row, k, to, l)
	return row
}

// checkRenewed tells that the new version is read: the data of the old one, but the changed cells; and that its cells which are there are just those that were, and those that were written.
func checkRenewed(t *testing.T, p api.Params, row []api.Pair, old kept, to int, l []api.Change) {
	t.Helper()
	data, err := stripe.Read(p, row, 1, to)
	if want := made(p, old.data, l); err != api.OK || !bytes.Equal(data, want) {
		t.Fatalf("%v: the new version is read as %v, %d, want %v", p, data, err, want)
	}
	want := slices.Clone(old.numbers)
	for _, x := range l {
		want = append(want, x.Cell)
	}
	for drive := p.K; drive < p.K+p.R; drive++ {
		want = append(want, drive)
	}
	slices.Sort(want)
	want = slices.Compact(want)
	if numbers, err := stripe.Present(p, row, 1, to); err != api.OK || !slices.Equal(numbers, want) {
		t.Fatalf("%v: of the new version %v, %d are there, want %v", p, numbers, err, want)
	}
}

func TestP13_4OneByOneByEveryParams(t *testing.T) {
	every(func(p api.Params) {
		throw := dice(p.Cell)
		oneByOne(t, p, whole(p, 6, some(p.K*p.Cell, p.Cell)), 6, 7, changesOf(p, p.R, someCells(p, &throw)...))
	})
}

func TestP13_4OneByOneInMixedRows(t *testing.T) {
	done := 0
	mixedRows(150, func(p api.Params, r known, throw *dice) {
		r = lawful(r, 9)
		for _, from := range []int{3, 5, 8} {
			if r.wantData(p, from) != nil {
				oneByOne(t, p, r, from, 9, changesOf(p, throw.below(100), someCells(p, throw)...))
				done++
			}
		}
	})
	if done < 500 {
		t.Fatalf("only %d updates were made", done)
	}
}

// Any cells of the old version are missing, up to R of them; the new one is read behind all raw writes, also of its parity cells and of any other K.
func TestP13_4MissingCells(t *testing.T) {
	for _, p := range few() {
		if p.K > 4 {
			continue
		}
		n := p.K + p.R
		r := whole(p, 7, some(p.K*p.Cell, 5))
		for many := range p.R + 1 {
			choices(n, many, func(missing []int) {
				for _, l := range [][]api.Change{changesOf(p, 1, 0), changesOf(p, 2, p.K-1), changesOf(p, 3, allCells(p)...)} {
					row := oneByOne(t, p, r.without(missing...), 7, 8, l)
					there, _ := stripe.Present(p, row, 1, 8)
					want, _ := stripe.Read(p, row, 1, 8)
					choices(len(there), p.K, func(chosen []int) {
						left := make([]api.Pair, n)
						for _, i := range chosen {
							left[there[i]] = row[there[i]]
						}
						data, err := stripe.Read(p, left, 1, 8)
						if told, _, _ := stripe.Vector(p, left, 1, 8); told != nil && (err != api.OK || !bytes.Equal(data, want)) {
							t.Fatalf("%v: of the cells %v the new version is read as %v, %d, want %v", p, chosen, data, err, want)
						}
					})
				}
			})
		}
	}
}

// The least and the greatest versions; what was cut off earlier in the row has versions between.
func TestP13_4Versions(t *testing.T) {
	for _, p := range few() {
		data := some(p.K*p.Cell, 1)
		for _, x := range [][2]int{{1, 2}, {1, most}, {most - 1, most}, {2, most - 1}} {
			oneByOne(t, p, whole(p, x[0], data), x[0], x[1], changesOf(p, 1, p.K-1))
			oneByOne(t, p, whole(p, x[0], data), x[0], x[1], changesOf(p, 2, allCells(p)...))
		}
		cut := whole(p, 1, data).holding(p, 1, 1, with(same(p, 1), 5, p.K-1), some(p.K*p.Cell, 9), p.K-1)
		oneByOne(t, p, cut, 1, 6, changesOf(p, 3, p.K-1))
		oneByOne(t, p, cut, 1, most, changesOf(p, 4, 0))
	}
}

// The parity cells are those of the new data, whatever is changed, also if nothing is.
func TestP13_5ParityOfTheNewData(t *testing.T) {
	every(func(p api.Params) {
		throw, data := dice(p.K+p.Cell), some(p.K*p.Cell, p.K)
		row := whole(p, 3, data).row()
		cells := someCells(p, &throw)
		l := changesOf(p, p.Cell, cells...)
		if p.Cell%7 == 0 {
			l[0].Data = data[cells[0]*p.Cell : (cells[0]+1)*p.Cell]
		}
		puts, err := Plan(p, row, 1, 3, 4, l)
		if err != api.OK {
			t.Fatalf("%v: Plan is %d", p, err)
		}
		all, err := stripe.Cells(p, behind(row, puts), 1, 4)
		if fits, also := codec.Verify(p.K, p.R, all); !fits || err != api.OK || also != api.OK {
			t.Fatalf("%v: behind an update the parity is another one: %v, %d, %d", p, fits, err, also)
		}
		parity, _ := codec.Encode(p.K, p.R, slices.Collect(slices.Chunk(made(p, data, l), p.Cell)))
		for i, want := range parity {
			if x := puts[len(l)+i]; x.Drive != p.K+i || !bytes.Equal(x.Bytes[sizeOf(p)-p.Cell:], want) {
				t.Fatalf("%v: the parity cell %d is %v, want %v", p, i, x, want)
			}
		}
	})
}

// An update by Changes, and one by Unlike, are read as the same stripe.
func TestP13_5UpdatesByChangesAndByUnlike(t *testing.T) {
	for i, p := range few() {
		width, throw := p.K*p.Cell, dice(i)
		for round := range 40 {
			old := some(width, round)
			at := throw.below(width)
			now := some(1+throw.below(width-at), round+1)
			want := bytes.Clone(old)
			copy(want[at:], now)
			r := whole(p, 5, old)
			oneByOne(t, p, r, 5, 6, checkChanges(t, p, old, at, now))
			if unlike := checkUnlike(t, p, old, want); len(unlike) > 0 {
				row := oneByOne(t, p, r, 5, 6, unlike)
				if data, err := stripe.Read(p, row, 1, 6); err != api.OK || !bytes.Equal(data, want) {
					t.Fatalf("%v: an update by Unlike is read as %v, %d, want %v", p, data, err, want)
				}
			}
		}
	}
}

// history is a row that one stripe stands in, and the version of it that was updated last.
type history struct {
	p    api.Params
	row  []api.Pair
	last int
	data []byte
}

// shows tells that the last version is read.
func (h *history) shows(t *testing.T) {
	t.Helper()
	if data, err := stripe.Read(h.p, h.row, 1, h.last); err != api.OK || !bytes.Equal(data, h.data) {
		t.Fatalf("%v: the version %d is read as %v, %d, want %v", h.p, h.last, data, err, h.data)
	}
}

func (h *history) there() int {
	numbers, _ := stripe.Present(h.p, h.row, 1, h.last)
	return len(numbers)
}

// update makes an update, which may be cut off.
func (h *history) update(t *testing.T, version int, throw *dice) {
	t.Helper()
	at := throw.below(len(h.data))
	now := some(1+throw.below(len(h.data)-at), version)
	l := checkChanges(t, h.p, h.data, at, now)
	puts, err := Plan(h.p, h.row, 0, h.last, version, l)
	if err != api.OK || len(puts) != len(l)+h.p.R {
		t.Fatalf("%v: Plan from %d to %d is %v, %d", h.p, h.last, version, puts, err)
	}
	many := len(puts)
	if throw.below(3) == 0 {
		many = throw.below(len(puts))
	}
	before := h.there()
	for _, x := range puts[:many] {
		h.row = behind(h.row, []api.Put{x})
		h.shows(t)
		if h.there() != before {
			t.Fatalf("%v: of the version %d there were %d cells, there are %d", h.p, h.last, before, h.there())
		}
	}
	if many == len(puts) {
		h.last, h.data = version, made(h.p, h.data, l)
		h.shows(t)
	}
}

// harm wipes drives, as long as enough is left, or mends what is missing.
func (h *history) harm(t *testing.T, throw *dice) {
	t.Helper()
	if throw.below(3) == 0 {
		puts, err := stripe.Mend(h.p, h.row, 0, 1, 0, h.last)
		if err != api.OK {
			t.Fatalf("%v: Mend of the version %d is %d", h.p, h.last, err)
		}
		h.row = behind(h.row, puts)
	}
	for range throw.below(h.p.R + 1) {
		if h.there() > h.p.K {
			h.row[throw.below(len(h.row))] = api.Pair{}
		}
	}
	h.shows(t)
}

// A stripe is updated again and again, cut off behind any raw write, wiped and mended: the last version whose raw writes were all made is read all the time.
func TestP13_4SeriesOfUpdates(t *testing.T) {
	for seed := range 200 {
		throw := dice(seed)
		p := one(&throw, few())
		data := some(p.K*p.Cell, seed)
		h := &history{p: p, row: whole(p, 1, data).row(), last: 1, data: data}
		for version := 2; version <= 30; version++ {
			h.update(t, version, &throw)
			h.harm(t, &throw)
		}
	}
}
