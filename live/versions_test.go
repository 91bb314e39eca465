package live

import (
	"slices"
	"testing"

	"twoslot/api"
)

// nextIs tells that Next answers a number.
func nextIs(t *testing.T, k known, want int, what string) {
	t.Helper()
	if next, err := Next(k.image()); next != want || err != api.OK {
		t.Fatalf("%v: Next with %s is %d, %d, want %d", k.p, what, next, err, want)
	}
}

// holding is the image in which one slot has some content.
func (k known) holding(drive, row, number int, c content) known {
	return k.changed(row, func(r line) { r[drive][number] = c })
}

// The greatest version may stand in any slot of any row and drive, of either kind, alone in its row.
func TestP23_3NextOfEachSlot(t *testing.T) {
	t.Parallel()
	for _, p := range few() {
		p.Rows = min(p.Rows, 13)
		k := standing(p, 7).known
		nextIs(t, k, k.wantNext(), "what a store left")
		for drive := range p.K + p.R {
			for row := range p.Rows {
				for number := range 2 {
					kind := uint8(1 + (drive+row+number)%2)
					for _, version := range []int{newest + 1, most - 1, most} {
						c := contentOf(slotOf(kind, drive, same(p, version), some(p.Cell, row)))
						nextIs(t, k.holding(drive, row, number, c), version+1, "a greater one in one slot")
					}
					c := contentOf(slotOf(kind, drive, same(p, 1), some(p.Cell, row)))
					nextIs(t, blank(p).holding(drive, row, number, c), 2, "one slot of the version 1")
				}
			}
		}
	}
}

// The greatest version may be that of another cell of the stripe, any one.
func TestP23_3NextOfEachCellOfAVector(t *testing.T) {
	for _, p := range few() {
		n := p.K + p.R
		for drive := range n {
			for cell := range n {
				for kind := uint8(1); kind <= 2; kind++ {
					for _, version := range []int{6, 300, 70000, 1 << 24, most} {
						v := with(same(p, 5), version, cell)
						k := blank(p).holding(drive, p.Rows-1, 1, contentOf(slotOf(kind, drive, v, some(p.Cell, 3))))
						nextIs(t, k, version+1, "a vector")
						v = with(same(p, version), 5, cell)
						if n > 1 {
							k = blank(p).holding(drive, p.Rows/2, 0, contentOf(slotOf(kind, drive, v, some(p.Cell, 3))))
							nextIs(t, k, version+1, "a vector")
						}
					}
				}
			}
		}
	}
}

// What is a slot for another drive, or none at all, has no version.
func TestP23_3NextWithoutSlotsOfTheDrive(t *testing.T) {
	t.Parallel()
	for _, p := range few() {
		p.Rows = min(p.Rows, 13)
		n := p.K + p.R
		for _, k := range []known{blank(p), standing(p, 8).known} {
			want := k.wantNext()
			for drive := range n {
				for other := range n {
					c := contentOf(slotOf(uint8(1+other%2), other, same(p, most), some(p.Cell, 3)))
					row, number := (drive*n+other)%p.Rows, other%2
					with := k.holding(drive, row, number, c)
					if other != drive {
						nextIs(t, with, with.wantNext(), "a slot for another drive")
						if with.wantNext() > want {
							t.Fatal("the images are wrong")
						}
					}
				}
				for i, c := range append(noSlots(p, 1, drive), noSlots(p, 2, drive)...) {
					with := k.holding(drive, i%p.Rows, i%2, c)
					nextIs(t, with, with.wantNext(), "no slot")
				}
			}
		}
	}
}

// Slots that would be ones, but for one byte or number, with the greatest versions of all.
func TestP23_3NextWithoutSlots(t *testing.T) {
	for _, p := range few() {
		n := p.K + p.R
		for drive := range n {
			right := slotOf(2, drive, same(p, most), some(p.Cell, 3))
			nextIs(t, blank(p).holding(drive, 4, 0, contentOf(right)), most+1, "a right slot")
			for i, change := range []func(s *api.Slot){
				func(s *api.Slot) { s.Kind = 0 },
				func(s *api.Slot) { s.Kind = 3 },
				func(s *api.Slot) { s.Index = n },
				func(s *api.Slot) { s.Index = 255 },
				func(s *api.Slot) { s.Cell-- },
				func(s *api.Slot) { s.Stripe-- },
				func(s *api.Slot) { s.Stripe++ },
				func(s *api.Slot) { s.Cell, s.Stripe, s.Vector = most+1, most+1, same(p, most+1) },
				func(s *api.Slot) { s.Vector = with(s.Vector, 0, (drive+1)%n) },
				func(s *api.Slot) { s.Vector = with(s.Vector, most+1, (drive+1)%n) },
			} {
				s := right
				change(&s)
				nextIs(t, blank(p).holding(drive, 4, 1, content{bytes: bytesOf(s)}), 1, "a slot that may not be, "+string(rune('a'+i)))
			}
		}
	}
}

func TestP23_3NextOfNothing(t *testing.T) {
	every(func(p api.Params) {
		p.Rows = min(p.Rows, 20)
		nextIs(t, blank(p), 1, "blank drives")
		nextIs(t, blank(p).whole(3, 1, 1, 9, some(p.K*p.Cell, 3)), 10, "one stripe")
	})
}

// wholeIs tells that Whole answers as it must.
func wholeIs(t *testing.T, k known, want bool, what string) {
	t.Helper()
	if is, err := Whole(k.image()); is != want || err != api.OK {
		t.Fatalf("%v: Whole with %s is %v, %d, want %v", k.p, what, is, err, want)
	}
}

// emptied is the image in which one slot is blank.
func (k known) emptied(drive, row, number int) known { return k.holding(drive, row, number, content{}) }

// needs are the slots in which cells that are live stand: of both slots of a drive the first one that has the cell.
func (its stood) needs() map[[3]int]bool {
	all := map[[3]int]bool{}
	for _, live := range its.stripes() {
		r := its.rows[live.Row]
		v := r.vector(live.Kind, live.Version)
		for drive, two := range r {
			for number, c := range two {
				if c.of(live.Kind, drive) && c.slot.Cell == v[drive] {
					all[[3]int{drive, live.Row, number}] = true
					break
				}
			}
		}
	}
	return all
}

// One slot after the other becomes blank: without a cell that is live it is not whole, without another one it is.
func TestP23_3WholeWithoutOneSlot(t *testing.T) {
	t.Parallel()
	needed, others := 0, 0
	for _, p := range few() {
		if p.R == 0 {
			continue // the calls are refused then, mostly
		}
		p.Rows = min(p.Rows, 20)
		its := standing(p, 11)
		wholeIs(t, its.known, true, "all that a store left")
		needs := its.needs()
		for drive := range p.K + p.R {
			for row := range p.Rows {
				for number := range 2 {
					slot := [3]int{drive, row, number}
					wholeIs(t, its.emptied(drive, row, number), !needs[slot], "one slot blank")
					if needs[slot] {
						needed++
					} else {
						others++
					}
				}
			}
		}
	}
	if needed < 200 || others < 200 {
		t.Fatalf("%d slots are needed, %d are not", needed, others)
	}
}

// A drive that holds an elder version of a row, or a younger one, or something else, holds no cell of what is live there.
func TestP23_3WholeWithOtherCells(t *testing.T) {
	t.Parallel()
	for _, p := range few() {
		if p.R == 0 {
			continue
		}
		p.Rows = min(p.Rows, 13)
		its := standing(p, 12)
		for _, live := range its.stripes() {
			drive := (live.Row + live.Version) % (p.K + p.R)
			others := []content{
				contentOf(slotOf(live.Kind, drive, same(p, 3), some(p.Cell, 3))),
				contentOf(slotOf(3-live.Kind, drive, same(p, live.Version), some(p.Cell, 3))),
				contentOf(slotOf(live.Kind, (drive+1)%(p.K+p.R), same(p, live.Version), some(p.Cell, 3))),
			}
			if p.K > 1 { // else a descriptor of it would count
				others = append(others, contentOf(slotOf(live.Kind, drive, same(p, newest+3), some(p.Cell, 3))))
			}
			for _, c := range append(others, noSlots(p, live.Kind, drive)...) {
				k := its.changed(live.Row, func(r line) { r[drive] = [2]content{c, {}} })
				wholeIs(t, k, false, "another slot for a cell")
				k = its.changed(live.Row, func(r line) { r[drive] = [2]content{{}, c} })
				wholeIs(t, k, false, "another slot for a cell")
			}
		}
	}
}

// The bytes of a cell are not asked, nor in which slot it stands.
func TestP23_3WholeAsksForVersionsAlone(t *testing.T) {
	for _, p := range few() {
		if p.R == 0 {
			continue
		}
		p.Rows = min(p.Rows, 13)
		its := standing(p, 13)
		for _, live := range its.stripes() {
			k := its.changed(live.Row, func(r line) {
				last := p.K + p.R - 1 // a parity cell: all is read without it
				for number := range 2 {
					c := its.rows[live.Row][last][1-number]
					if c.slot.Kind > 0 {
						c.slot.Data = some(p.Cell, 99)
						c = contentOf(c.slot)
					}
					r[last][number] = c
				}
			})
			wholeIs(t, k, true, "other bytes, in the other slot")
			tells(t, stood{k, its.throw, its.buckets, its.entries, its.lives, its.free})
		}
	}
}

// Drives that are wiped: with at most R of them nothing that is live is told otherwise, and the store is not whole; with more what counts is lost.
func TestP23_3Wiped(t *testing.T) {
	t.Parallel()
	for _, p := range few() {
		p.Rows = min(p.Rows, 13)
		its := standing(p, 14)
		m := its.image()
		want, _ := Stripes(m)
		wiped := func(drives []int) api.Image {
			made := api.Image{P: p, Slots: slices.Clone(m.Slots)}
			for _, drive := range drives {
				clear(made.Slots[2*drive*p.Rows : 2*(drive+1)*p.Rows])
			}
			return made
		}
		asked := 0
		wipes(p, func(drives []int) {
			if asked++; p.K+p.R > 12 && asked%20 > 1 {
				return // the choices of 4 of 16 are many
			}
			now := wiped(drives)
			lives, err1 := Stripes(now)
			is, err2 := Whole(now)
			if !alike(lives, want, err1, 0) || is != (len(drives) == 0) || err2 != 0 {
				t.Fatalf("%v: with %v wiped Stripes are %v, %d, want %v; Whole is %v, %d", p, drives, lives, err1, want, is, err2)
			}
		})
		for first := range p.K + p.R {
			var drives []int
			for i := range p.R + 1 {
				drives = append(drives, (first+i)%(p.K+p.R))
			}
			now := wiped(drives)
			if is, err := Whole(now); is || err != api.ErrLost {
				t.Fatalf("%v: with %v wiped Whole is %v, %d", p, drives, is, err)
			}
		}
	}
}

// A stripe that is named, but not there at all: what is live is told all the same, but it is not whole.
func TestP23_3WholeWithoutStripes(t *testing.T) {
	t.Parallel()
	found := 0
	for _, p := range few() {
		p.Rows = min(p.Rows, 20)
		for seed := range 6 {
			its := standing(p, seed)
			for row, lives := range its.lives {
				if row == 0 || slices.Contains(its.buckets, row) || len(lives) > measured(p).direct {
					continue // of these the bytes are read, or leaves
				}
				for _, live := range lives[1:] {
					now := its
					now.known = its.lost(live.Row)
					tells(t, now)
					wholeIs(t, now.known, false, "a stripe lost")
					found++
				}
			}
		}
	}
	if found < 20 {
		t.Fatalf("there are only %d stripes", found)
	}
}
