package commit

import (
	"slices"
	"testing"

	"twoslot/api"
)

func TestP16_1Examples(t *testing.T) {
	p := exampleP()
	puts := checkPuts(t, p, blank(p), 3, 5, api.Desc{})
	if len(puts) != 3 {
		t.Fatalf("Puts are %v", puts)
	}
	for drive, x := range puts {
		if x.Drive != drive || x.Row != 3 || x.Slot != 0 || len(x.Bytes) != 40 {
			t.Fatalf("the raw write %d is %v", drive, x)
		}
	}
	refusedPuts(t, p, blank(p).behind(p, puts).row(), 3, 5, api.Desc{}, api.ErrParams)
	refusedPuts(t, p, blank(p).row(), 8, 5, api.Desc{}, api.ErrParams)
	refusedPuts(t, p, blank(p).row(), 3, 5, api.Desc{Length: -1}, api.ErrDesc)
}

func TestP16_2Examples(t *testing.T) {
	p := exampleP()
	puts := checkPuts(t, p, blank(p), 3, 5, api.Desc{})
	tells(t, p, blank(p).behind(p, puts), api.Desc{}, 5, api.OK)
	tells(t, p, blank(p).behind(p, puts[:1]), api.Desc{}, 0, api.ErrLost)
	tells(t, p, blank(p).behind(p, puts[:2]), api.Desc{}, 5, api.OK)
	if left := checkFinish(t, p, blank(p).behind(p, puts[:2]), 3); !samePuts(left, puts[2:]) {
		t.Fatalf("behind two raw writes Finish is %v", left)
	}
	if left := checkFinish(t, p, blank(p).behind(p, puts), 3); len(left) != 0 {
		t.Fatalf("behind all raw writes Finish is %v", left)
	}
	refusedFinish(t, p, blank(p).row(), 3, api.ErrLost)
}

func TestP16_3Examples(t *testing.T) {
	if at, err := Point(exampleP()); at != 2 || err != api.OK {
		t.Fatalf("Point is %d, %d", at, err)
	}
}

func TestP16_1StandingRows(t *testing.T) {
	for _, p := range few() {
		for _, r := range standing(p) {
			for _, version := range append(versions(), r.winner(p)+1) {
				for _, number := range []int{0, p.Rows / 2, p.Rows - 1} {
					checkPuts(t, p, r, number, version, byVersion(p, version))
				}
			}
		}
	}
}

func TestP16_2StandingRows(t *testing.T) {
	t.Parallel()
	for _, p := range few() {
		for _, r := range standing(p) {
			checkRead(t, p, r)
			for number := range p.Rows {
				checkFinish(t, p, r, number)
			}
		}
	}
}

func TestP16_2EverySmallRow(t *testing.T) {
	smallRows(func(p api.Params, r known) {
		checkRead(t, p, r)
		checkFinish(t, p, r, 3)
	})
}

func TestP16_1EverySmallRow(t *testing.T) {
	smallRows(func(p api.Params, r known) {
		for _, version := range []int{1, 5, 6, 7, most} {
			checkPuts(t, p, r, 3, version, byVersion(p, version))
		}
	})
}

func TestP16_2MixedRows(t *testing.T) {
	ends := map[api.Errno]int{}
	mixedRows(120, func(p api.Params, r known, _ *dice) {
		check(t, p, r)
		_, _, err := r.wantRead(p)
		ends[err]++
	})
	if ends[api.OK] < 100 || ends[api.ErrLost] < 50 || ends[api.ErrDesc] < 10 { // else the rows above would tell little
		t.Fatalf("Read ends in %v", ends)
	}
}

// All drives' cells of every descriptor at the edges, written into a blank row and read of it; with every parameter.
func TestP16_1EveryDescriptor(t *testing.T) {
	for _, p := range few() {
		for i, d := range descs(p) {
			for _, version := range []int{1, 5, most} {
				puts := checkPuts(t, p, blank(p), i%p.Rows, version, d)
				tells(t, p, blank(p).behind(p, puts), d, version, api.OK)
			}
		}
	}
}

func TestP16_1EveryParams(t *testing.T) {
	every(func(p api.Params) {
		d := byVersion(p, p.Cell)
		puts := checkPuts(t, p, blank(p), p.Rows-1, 6, d)
		r := blank(p).behind(p, puts[:p.K])
		tells(t, p, r, d, 6, api.OK)
		checkFinish(t, p, r, p.Rows-1)
		checkPuts(t, p, r, 0, 7, api.Desc{})
	})
}

func TestP16_3EveryParams(t *testing.T) {
	every(func(p api.Params) {
		if at, err := Point(p); at != p.K || err != api.OK {
			t.Fatalf("%v: Point is %d, %d", p, at, err)
		}
	})
}

// Point is how many raw writes of Puts must be made, and one fewer is too few.
func TestP16_3PointCommits(t *testing.T) {
	for _, p := range few() {
		at, _ := Point(p)
		d := byVersion(p, 8)
		puts := checkPuts(t, p, blank(p), 1, 8, d)
		tells(t, p, blank(p).behind(p, puts[:at]), d, 8, api.OK)
		tells(t, p, blank(p).behind(p, puts[:at-1]), api.Desc{}, 0, api.ErrLost)
	}
}

// A version must be above the winner; it need not be above losers, nor above versions of KindData.
func TestP16_1VersionsAroundTheWinner(t *testing.T) {
	for _, p := range few() {
		all := upTo(0, p.K+p.R)
		for _, winner := range []int{1, 5, 255, 256, 65535, 65536, 1<<24 - 1, most - 1, most} {
			r := blank(p).holding(p, 0, winner, all...)
			for _, version := range []int{1, winner - 1, winner, winner + 1, winner + 2, most} {
				want := api.OK
				if version < 1 || version <= winner || version > most {
					want = api.ErrParams
				}
				if puts, err := Puts(p, r.row(), 0, version, api.Desc{}); err != want || (err == api.OK) != (len(puts) == p.K+p.R) {
					t.Fatalf("%v: Puts of %d above the winner %d are %v, %d, want %d", p, version, winner, puts, err, want)
				}
				checkPuts(t, p, r, 0, version, byVersion(p, version))
			}
		}
		r := blank(p).holding(p, 0, 5, all...).holding(p, 1, 9, upTo(0, p.K-1)...)
		if puts := checkPuts(t, p, r, 0, 6, api.Desc{}); len(puts) != p.K+p.R {
			t.Fatalf("%v: below a loser Puts are %v", p, puts)
		}
		r = blank(p).holding(p, 0, 5, all...).having(p, 1, 1, most, wantBytes(p, api.Desc{}), all...)
		if puts := checkPuts(t, p, r, 0, 6, api.Desc{}); len(puts) != p.K+p.R {
			t.Fatalf("%v: below a version of KindData Puts are %v", p, puts)
		}
		r = blank(p).holding(p, 0, most, upTo(0, p.K-1)...)
		if puts := checkPuts(t, p, r, 0, 1, api.Desc{}); len(puts) != p.K+p.R {
			t.Fatalf("%v: without a winner Puts of the version 1 are %v", p, puts)
		}
	}
}

// What is kept is the winner, not the newest one: a loser is what a new version goes over.
func TestP16_1OverTheLoser(t *testing.T) {
	for _, p := range few() {
		all := upTo(0, p.K+p.R)
		for number := range 2 {
			r := blank(p).holding(p, number, 5, all...).holding(p, 1-number, 7, upTo(0, p.K-1)...)
			for _, x := range checkPuts(t, p, r, 2, 8, byVersion(p, 8)) {
				if x.Slot != 1-number {
					t.Fatalf("%v: the drive %d's cell goes to the slot %d, where the winner is", p, x.Drive, x.Slot)
				}
			}
			r = blank(p).holding(p, number, 5, all...).holding(p, 1-number, 3, all...)
			for _, x := range checkPuts(t, p, r, 2, 8, byVersion(p, 8)) {
				if x.Slot != 1-number {
					t.Fatalf("%v: the drive %d's cell goes to the slot %d, and not over the runner", p, x.Drive, x.Slot)
				}
			}
		}
	}
}

// What Finish keeps is the runner, though it is the elder one: a loser, or what does not count, is what it goes over.
func TestP16_2OverTheLoser(t *testing.T) {
	for _, p := range few() {
		if p.R == 0 || p.K == 1 {
			continue // all drives hold a winner without parity; of one data cell each version counts
		}
		n := p.K + p.R
		for number := range 2 {
			for _, other := range []int{1, 6, 9, most} {
				r := blank(p).holding(p, number, 5, upTo(0, n)...).holding(p, 1-number, 7, upTo(0, p.K)...).holding(p, 1-number, other, n-1)
				found := false
				for _, x := range checkFinish(t, p, r, 2) {
					if x.Slot != 1-number {
						t.Fatalf("%v: the drive %d's cell goes to the slot %d, where the runner is", p, x.Drive, x.Slot)
					}
					found = found || x.Drive == n-1
				}
				if !found {
					t.Fatalf("%v: the drive that has %d gets no cell", p, other)
				}
			}
		}
	}
}

// Of every choice of K drives that hold the winner it is read, and the others get their cells.
func TestP16_2EveryChoiceOfHolders(t *testing.T) {
	t.Parallel()
	for _, p := range few() {
		n := p.K + p.R
		d := descOf(p, measured(p).most, 4)
		choices(n, p.K, func(chosen []int) {
			r := blank(p).holding(p, 1, 3, upTo(0, n)...).having(p, 0, 2, 6, wantBytes(p, d), chosen...)
			tells(t, p, r, d, 6, api.OK)
			puts := checkFinish(t, p, r, 1)
			if len(puts) != p.R {
				t.Fatalf("%v: held by %v Finish is %v", p, chosen, puts)
			}
			for _, x := range puts {
				if slices.Contains(chosen, x.Drive) || x.Row != 1 || x.Slot != 0 {
					t.Fatalf("%v: held by %v a raw write is %v", p, chosen, x)
				}
			}
		})
	}
}

// A winner whose cells are those of other bytes than a descriptor's is ErrDesc; it is finished all the same.
func TestP16_2NoDescriptor(t *testing.T) {
	for _, p := range few() {
		n, m := p.K+p.R, measured(p)
		bad := descOf(p, m.width+1, 1)
		bad.Refs[1].Row = p.Rows
		for _, data := range [][]byte{filled(m.width, 1), filled(m.width, 255), some(m.width, 3), wantBytes(p, bad), wantBytes(p, api.Desc{Length: 1}), append(make([]byte, m.width-1), 1)} {
			for _, many := range []int{p.K, n} {
				r := blank(p).having(p, 0, 2, 5, data, upTo(0, many)...)
				tells(t, p, r, api.Desc{}, 0, api.ErrDesc)
				if puts := checkFinish(t, p, r, 4); len(puts) != n-many {
					t.Fatalf("%v: Finish is %v", p, puts)
				}
				checkPuts(t, p, r, 4, 6, byVersion(p, 6))
			}
			r := blank(p).holding(p, 1, 4, upTo(0, n)...).having(p, 0, 2, 5, data, upTo(0, n)...)
			tells(t, p, r, api.Desc{}, 0, api.ErrDesc) // not the runner in its place
		}
	}
}

// Where cells do not fit together the first K of those that are there count.
func TestP16_2CellsThatDoNotFit(t *testing.T) {
	for _, p := range few() {
		n := p.K + p.R
		d := byVersion(p, 3)
		for drive := range n {
			r := blank(p).having(p, 0, 2, 5, wantBytes(p, d), upTo(0, n)...)
			r[drive][0] = contentOf(slotOf(2, drive, same(p, 5), some(p.Cell, 1000+drive)))
			checkRead(t, p, r)
			if drive >= p.K {
				tells(t, p, r, d, 5, api.OK)
			}
			checkFinish(t, p, r, 0)
			for wiped := range n {
				checkRead(t, p, r.without(wiped))
				checkFinish(t, p, r.without(wiped), 0)
			}
		}
	}
}

// The winner counts, but a slot ahead of the others tells its version with another vector, by which too few cells are there.
func TestP16_2TooFewCanBeRead(t *testing.T) {
	for _, p := range few() {
		n := p.K + p.R
		if p.K == 1 || n == p.K {
			continue // one cell is always there; without parity each drive is needed as a holder
		}
		r := blank(p).holding(p, 0, 5, upTo(1, n)...)
		r[0][0] = contentOf(slotOf(2, 0, with(same(p, 3), 5, 0), some(p.Cell, 1)))
		tells(t, p, r, api.Desc{}, 0, api.ErrLost)
		refusedFinish(t, p, r.row(), 0, api.ErrLost)
		checkPuts(t, p, r, 0, 6, api.Desc{})
		r = r.holding(p, 1, 3, upTo(0, n)...) // these are there, as that vector says: the data are of two versions
		checkRead(t, p, r)
		checkFinish(t, p, r, 0)
	}
}

// Slots of other drives, and bytes that are no slots, are no cells; a new cell goes over them.
func TestP16_2OtherSlots(t *testing.T) {
	t.Parallel()
	for _, p := range few() {
		n := p.K + p.R
		full := blank(p).holding(p, 0, 5, upTo(0, n)...)
		for drive := range n {
			others := noSlots(p, drive)
			for other := range n {
				if other != drive {
					others = append(others, contentOf(slotOf(2, other, same(p, 5), some(p.Cell, 2))), contentOf(slotOf(2, other, same(p, 9), some(p.Cell, 2))))
				}
			}
			for _, c := range others {
				for number := range 2 {
					r := slices.Clone(full)
					r[drive][number] = c
					checkRead(t, p, r)
					checkFinish(t, p, r, 1)
					checkPuts(t, p, r, 1, 9, api.Desc{})
				}
			}
		}
		turned := blank(p)
		for drive := range turned {
			turned[drive][0] = contentOf(slotOf(2, (drive+1)%n, same(p, 5), some(p.Cell, 2)))
		}
		check(t, p, turned)
	}
}

// A cell of the winner may stand in either slot, drive by drive another one.
func TestP16_2EitherSlot(t *testing.T) {
	for _, p := range few() {
		n := p.K + p.R
		d := descOf(p, measured(p).most, 8)
		for seed := range 20 {
			throw, r := dice(seed), blank(p)
			for drive := range n {
				number := throw.below(2)
				r = r.having(p, number, 2, 9, wantBytes(p, d), drive).holding(p, 1-number, 4, drive)
			}
			tells(t, p, r, d, 9, api.OK)
			for _, x := range checkPuts(t, p, r, 1, 10, api.Desc{}) {
				if r[x.Drive][x.Slot].slot.Stripe != 4 {
					t.Fatalf("%v: a raw write goes over the winner", p)
				}
			}
			for many := range p.R + 1 {
				checkFinish(t, p, r.without(upTo(n-many, n)...), 1)
			}
		}
	}
}
