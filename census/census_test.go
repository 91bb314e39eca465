package census

import (
	"slices"
	"testing"

	"twoslot/api"
)

// exampleX is the chapter's row X: both versions on the drive 0, the elder one on the others.
func exampleX() known {
	return rowOf(exampleP(), [2]int{5, 6}, [2]int{5, 0}, [2]int{5, 0})
}

// exampleMore is X with D(6) on the drive 1, too.
func exampleMore() known {
	return rowOf(exampleP(), [2]int{5, 6}, [2]int{5, 6}, [2]int{5, 0})
}

func TestP14_1Examples(t *testing.T) {
	want := []api.Tally{{Version: 6, Cells: []int{0}}, {Version: 5, Cells: []int{0, 1, 2}}}
	if tallies, err := Tallies(exampleP(), exampleX().row()); err != api.OK || !sameTallies(tallies, want) {
		t.Fatalf("Tallies of X are %v, %d", tallies, err)
	}
}

func TestP14_1EverySmallRow(t *testing.T) {
	smallRows(func(p api.Params, r known) { checkTallies(t, p, r) })
}

func TestP14_1MixedRows(t *testing.T) {
	held := 0
	mixedRows(300, func(p api.Params, r known, _ *dice) {
		checkTallies(t, p, r)
		held += len(r.wantTallies())
	})
	if held < 3000 {
		t.Fatalf("only %d versions were held", held)
	}
}

// By every K, R and Cell: the first drive and the last one, the least version and the greatest.
func TestP14_1ByEveryParams(t *testing.T) {
	every(func(p api.Params) {
		last := p.K + p.R - 1
		r := blank(p).holding(p, 0, most, 0, last).holding(p, 1, 1, last)
		drives := slices.Compact([]int{0, last})
		want := []api.Tally{{Version: most, Cells: drives}, {Version: 1, Cells: []int{last}}}
		if tallies, err := Tallies(p, r.row()); err != api.OK || !sameTallies(tallies, want) {
			t.Fatalf("%v: Tallies in%s are %v, %d", p, r.told(), tallies, err)
		}
	})
}

// Blank rows hold nothing, whether a blank slot is nil or not.
func TestP14_1BlankRows(t *testing.T) {
	for _, p := range few() {
		none := blank(p)
		for drive := range none {
			none[drive] = [2]content{{bytes: []byte{}}, {bytes: make([]byte, 0, 9)}}
		}
		for _, r := range []known{blank(p), none} {
			if tallies, err := Tallies(p, r.row()); err != api.OK || len(tallies) != 0 {
				t.Fatalf("%v: Tallies of a blank row are %v, %d", p, tallies, err)
			}
			check(t, p, r)
		}
	}
}

// A drive is counted once for a version, though both of its slots hold it, and though with other data.
func TestP14_1DrivesThatHoldAVersionTwice(t *testing.T) {
	for _, p := range few() {
		n := p.K + p.R
		for drive := range n {
			r := blank(p).holding(p, 0, 5, drive).holding(p, 1, 5, drive)
			want := []api.Tally{{Version: 5, Cells: []int{drive}}}
			if tallies, err := Tallies(p, r.row()); err != api.OK || !sameTallies(tallies, want) {
				t.Fatalf("%v: Tallies of a version in both slots are %v, %d", p, tallies, err)
			}
			r[drive][1] = contentOf(slotOf(2, drive, same(p, 5), some(p.Cell, 999)))
			check(t, p, r)
			check(t, p, r.holding(p, 0, 5, upTo(0, n)...))
		}
	}
}

// Two versions of a drive are told both, whichever stands first.
func TestP14_1TwoVersionsOfADrive(t *testing.T) {
	for _, p := range few() {
		for drive := range p.K + p.R {
			want := []api.Tally{{Version: 7, Cells: []int{drive}}, {Version: 5, Cells: []int{drive}}}
			for _, r := range []known{
				blank(p).holding(p, 0, 5, drive).holding(p, 1, 7, drive),
				blank(p).holding(p, 0, 7, drive).holding(p, 1, 5, drive),
			} {
				if tallies, err := Tallies(p, r.row()); err != api.OK || !sameTallies(tallies, want) {
					t.Fatalf("%v: Tallies in%s are %v, %d", p, r.told(), tallies, err)
				}
			}
		}
	}
}

// As many versions as there are slots, each in one: they fall, however the drives have them.
func TestP14_1EverySlotAnother(t *testing.T) {
	for _, p := range few() {
		n := p.K + p.R
		for seed := range 40 {
			throw, left := dice(seed), upTo(1, 2*n+1)
			r := blank(p)
			var want []api.Tally
			for version := 2 * n; version >= 1; version-- {
				want = append(want, api.Tally{Version: version})
			}
			for drive := range n {
				for number := range 2 {
					at := throw.below(len(left))
					version := left[at]
					left = slices.Delete(left, at, at+1)
					r[drive][number] = plain(p, 2, drive, version)
					want[2*n-version].Cells = []int{drive}
				}
			}
			for range 3 { // in whatever order a map is gone through
				if tallies, err := Tallies(p, r.row()); err != api.OK || !sameTallies(tallies, want) {
					t.Fatalf("%v: Tallies in%s are %v, %d", p, r.told(), tallies, err)
				}
			}
			checkCounting(t, p, r)
		}
	}
}

// Versions that are alike in their last bytes are unlike.
func TestP14_1VersionsAlikeInTheirLastBytes(t *testing.T) {
	for _, p := range few() {
		for _, version := range []int{5 + 1<<8, 5 + 1<<16, 5 + 1<<24, 5 + 1<<29} {
			r := blank(p).holding(p, 0, 5, upTo(0, p.K+p.R)...).holding(p, 1, version, 0)
			want := []api.Tally{{Version: version, Cells: []int{0}}, {Version: 5, Cells: upTo(0, p.K+p.R)}}
			if tallies, err := Tallies(p, r.row()); err != api.OK || !sameTallies(tallies, want) {
				t.Fatalf("%v: Tallies in%s are %v, %d", p, r.told(), tallies, err)
			}
			checkMissing(t, p, r, version)
		}
	}
}

// Slots of KindData hold no version of a descriptor, be it the same one, in either slot or in both.
func TestP14_1SlotsOfKindData(t *testing.T) {
	for _, p := range few() {
		n := p.K + p.R
		full := blank(p).holding(p, 0, 5, upTo(0, n)...)
		for drive := range n {
			for _, version := range []int{1, 5, 7, most} {
				data, desc := plain(p, 1, drive, version), plain(p, 2, drive, 5)
				for _, two := range [][2]content{{data, {}}, {{}, data}, {data, data}, {data, desc}, {desc, data}} {
					r := slices.Clone(full)
					r[drive] = two
					check(t, p, r)
					if got, _ := Missing(p, r.row(), version); version != 5 && !slices.Contains(got, drive) {
						t.Fatalf("%v: a slot of KindData holds the version %d", p, version)
					}
				}
			}
		}
		for drive := range full {
			full[drive][0] = plain(p, 1, drive, 5)
		}
		if tallies, err := Tallies(p, full.row()); err != api.OK || len(tallies) != 0 {
			t.Fatalf("%v: Tallies of slots of KindData are %v, %d", p, tallies, err)
		}
	}
}

// Slots that another drive's index is in hold nothing of this drive, nor of that one.
func TestP14_1SlotsOfOtherDrives(t *testing.T) {
	for _, p := range few() {
		n := p.K + p.R
		for drive := range n {
			for other := range n {
				if other == drive {
					continue
				}
				for number := range 2 {
					r := blank(p)
					r[drive][number] = plain(p, 2, other, 5)
					if tallies, err := Tallies(p, r.row()); err != api.OK || len(tallies) != 0 {
						t.Fatalf("%v: Tallies of a slot of another drive are %v, %d", p, tallies, err)
					}
					r[drive][1-number] = plain(p, 2, drive, 5)
					check(t, p, r)
				}
			}
		}
		turned := blank(p)
		for drive := range turned {
			turned[drive][0] = plain(p, 2, (drive+1)%n, 5)
		}
		check(t, p, turned)
	}
}

// Bytes that are no slot hold nothing, and hide nothing that the other slot holds.
func TestP14_1NoSlots(t *testing.T) {
	for _, p := range few() {
		n := p.K + p.R
		for _, drive := range slices.Compact([]int{0, n / 2, n - 1}) {
			full := blank(p).holding(p, 0, 5, upTo(0, n)...)
			for _, none := range noSlots(p, drive) {
				desc := plain(p, 2, drive, 5)
				for _, two := range [][2]content{{none, none}, {none, desc}, {desc, none}, {none, {}}, {{}, none}} {
					r := slices.Clone(full)
					r[drive] = two
					checkTallies(t, p, r)
					checkCounting(t, p, r)
					checkMissing(t, p, r, 5)
				}
			}
		}
	}
}

// A slot whose vector is not its version everywhere holds no version of a descriptor: one cell elder than the rest, this one, all others.
func TestP14_1VectorsOfSeveralVersions(t *testing.T) {
	for _, p := range few() {
		n := p.K + p.R
		for drive := range n {
			for place := range n {
				for _, v := range [][]int{with(same(p, 5), place, 4), with(same(p, 5), place, 6), with(same(p, 1), place, most)} {
					if n == 1 {
						continue
					}
					for number := range 2 {
						r := blank(p)
						r[drive][number] = contentOf(slotOf(2, drive, v, some(p.Cell, 1)))
						if tallies, err := Tallies(p, r.row()); err != api.OK || len(tallies) != 0 {
							t.Fatalf("%v: Tallies of the vector %v are %v, %d", p, v, tallies, err)
						}
						for _, version := range v {
							checkMissing(t, p, r, version)
						}
					}
				}
			}
		}
	}
}

// It may be either slot of two with the same Cell that has this version everywhere.
func TestP14_1EitherSlotOfOneCell(t *testing.T) {
	for _, p := range few() {
		n := p.K + p.R
		for drive := range n {
			for place := range n {
				if place == drive {
					continue
				}
				for _, other := range []int{4, 6, most} {
					part := contentOf(slotOf(2, drive, with(same(p, 5), place, other), some(p.Cell, 1)))
					want := []api.Tally{{Version: 5, Cells: []int{drive}}}
					for _, two := range [][2]content{{part, plain(p, 2, drive, 5)}, {plain(p, 2, drive, 5), part}} {
						r := blank(p)
						r[drive] = two
						if tallies, err := Tallies(p, r.row()); err != api.OK || !sameTallies(tallies, want) {
							t.Fatalf("%v: Tallies in%s are %v, %d", p, r.told(), tallies, err)
						}
						check(t, p, r)
					}
				}
			}
		}
	}
}

func TestP14_3Examples(t *testing.T) {
	if drives, err := Missing(exampleP(), exampleX().row(), 6); err != api.OK || !slices.Equal(drives, []int{1, 2}) {
		t.Fatalf("Missing of 6 in X is %v, %d", drives, err)
	}
	if drives, err := Missing(exampleP(), exampleX().row(), 0); err != api.ErrParams || drives != nil {
		t.Fatalf("Missing of 0 in X is %v, %d", drives, err)
	}
}

func TestP14_3EverySmallRow(t *testing.T) {
	smallRows(func(p api.Params, r known) {
		for _, version := range []int{1, 4, 5, 6, 7, most} {
			checkMissing(t, p, r, version)
		}
	})
}

func TestP14_3MixedRows(t *testing.T) {
	mixedRows(200, func(p api.Params, r known, _ *dice) {
		for _, version := range append(r.named(), versions()...) {
			checkMissing(t, p, r, version)
		}
	})
}

// A version that no drive holds, that each choice of drives holds, that all hold; in either slot.
func TestP14_3EveryChoiceOfDrives(t *testing.T) {
	for _, p := range few() {
		n := p.K + p.R
		sets(n, func(chosen []int) {
			var want []int
			for drive := range n {
				if !slices.Contains(chosen, drive) {
					want = append(want, drive)
				}
			}
			for _, version := range []int{1, 5, most} {
				for number := range 2 {
					r := blank(p).holding(p, number, version, chosen...)
					if drives, err := Missing(p, r.row(), version); err != api.OK || !slices.Equal(drives, want) {
						t.Fatalf("%v: Missing of %d, which %v hold, is %v, %d", p, version, chosen, drives, err)
					}
					checkTallies(t, p, r)
				}
			}
		})
	}
}

// A version that may be and that nobody holds is missing everywhere; that is no error.
func TestP14_3NobodyHolds(t *testing.T) {
	for _, p := range few() {
		n := p.K + p.R
		for _, r := range []known{blank(p), blank(p).holding(p, 0, 5, upTo(0, n)...)} {
			for _, version := range []int{1, 4, 6, 5 + 256, 5 + 1<<16, 5 + 1<<24, most - 1, most} {
				if drives, err := Missing(p, r.row(), version); err != api.OK || !slices.Equal(drives, upTo(0, n)) {
					t.Fatalf("%v: Missing of %d is %v, %d", p, version, drives, err)
				}
			}
		}
	}
}
