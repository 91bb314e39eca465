package cell

import (
	"testing"

	"twoslot/api"
)

// behind is a pair with a new slot where Older tells it, and that number.
func behind(t *testing.T, p api.Params, c cell, s api.Slot, keep int) (cell, int) {
	t.Helper()
	number, err := Older(p, c.pair(), s.Kind, s.Index, keep)
	if err != api.OK || number < 0 || number > 1 {
		t.Fatalf("%v: Older in %s, keep %d, is %d, %d", p, c.told(), keep, number, err)
	}
	c[number] = contentOf(s)
	return c, number
}

// found is what Find tells, which must be something.
func found(t *testing.T, p api.Params, two api.Pair, kind uint8, index, version int) (int, api.Slot) {
	t.Helper()
	number, s, is, err := Find(p, two, kind, index, version)
	if !is || err != api.OK {
		t.Fatalf("%v: Find of kind %d, index %d, version %d is %v, %d", p, kind, index, version, is, err)
	}
	return number, s
}

func TestP11_5KeptAndNewAreFound(t *testing.T) {
	cells(func(p api.Params, c cell, index int) {
		for _, kind := range []uint8{1, 2} {
			for _, keep := range []int{1, 3, 5, most} {
				kept, was, is, _ := Find(p, c.pair(), kind, index, keep)
				if !is {
					continue
				}
				for _, version := range []int{2, 6, most - 1} {
					fresh := plain(p, kind, index, version)
					after, number := behind(t, p, c, fresh, keep)
					at, s := found(t, p, after.pair(), kind, index, keep)
					if at != kept || !sameSlot(s, was) {
						t.Fatalf("%v: in %s the new version %d leaves of the kept one %d only %s", p, c.told(), version, keep, told(s))
					}
					at, s = found(t, p, after.pair(), kind, index, version)
					if at != number || at == kept || !sameSlot(s, fresh) {
						t.Fatalf("%v: in %s the new version %d is told as %d, %s", p, c.told(), version, at, told(s))
					}
				}
			}
		}
	})
}

// Where nothing is kept, or nothing of it is there, the new version is found all the same.
func TestP11_5NewIsFoundWithoutAnyKept(t *testing.T) {
	cells(func(p api.Params, c cell, index int) {
		for _, kind := range []uint8{1, 2} {
			for _, keep := range []int{0, 8, most - 2} {
				fresh := plain(p, kind, index, 6)
				after, number := behind(t, p, c, fresh, keep)
				if at, s := found(t, p, after.pair(), kind, index, 6); at != number || !sameSlot(s, fresh) {
					t.Fatalf("%v: in %s the new version is told as %d, %s", p, c.told(), at, told(s))
				}
			}
		}
	})
}

// held are the versions that a pair holds of a drive: which slots hold them does not matter.
func held(t *testing.T, p api.Params, c cell, index int) map[[2]int]int {
	t.Helper()
	all := map[[2]int]int{}
	for _, kind := range []uint8{1, 2} {
		for _, version := range versions() {
			number, _, is, err := Find(p, c.pair(), kind, index, version)
			if err != api.OK {
				t.Fatalf("%v: Find is %d", p, err)
			}
			if is {
				all[[2]int{int(kind), version}] = number
			}
		}
	}
	return all
}

func TestP11_5AtMostOneIsLost(t *testing.T) {
	cells(func(p api.Params, c cell, index int) {
		before := held(t, p, c, index)
		for _, kind := range []uint8{1, 2} {
			for _, keep := range []int{0, 1, 3, 5, 8, most} {
				after, number := behind(t, p, c, plain(p, kind, index, 4), keep)
				now := held(t, p, after, index)
				lost := 0
				for version := range before {
					if _, is := now[version]; !is {
						lost++
					}
				}
				other := c[1-number].slot
				if lost > 1 || lost > 0 && (other.Kind == 0 || other.Index != index) {
					t.Fatalf("%v: in %s, keep %d, %d versions are lost", p, c.told(), keep, lost)
				}
				if _, is := now[[2]int{int(kind), 4}]; !is {
					t.Fatalf("%v: in %s, keep %d, the new version is not held", p, c.told(), keep)
				}
			}
		}
	})
}

// Nothing is lost while a slot holds nothing of the drive; and the slot 0 is filled first.
func TestP11_5NothingIsLostWhereThereIsRoom(t *testing.T) {
	for _, p := range few() {
		for _, index := range indices(p) {
			for _, kind := range []uint8{1, 2} {
				first, at := behind(t, p, cell{}, plain(p, kind, index, 3), 0)
				if at != 0 {
					t.Fatalf("%v: the first version goes to the slot %d", p, at)
				}
				second, at := behind(t, p, first, plain(p, 3-kind, index, 5), 0)
				if at != 1 {
					t.Fatalf("%v: the second version goes to the slot %d", p, at)
				}
				found(t, p, second.pair(), kind, index, 3)
				found(t, p, second.pair(), 3-kind, index, 5)
			}
		}
	}
}

// A series of new versions of which some are committed, and are kept from then on: at each of them what was committed last is there, with its data.
func TestP11_5SeriesOfVersions(t *testing.T) {
	for seed := range 200 {
		throw := dice(seed)
		p := few()[throw.below(len(few()))]
		index := throw.below(p.K + p.R)
		kind := uint8(1 + throw.below(2))
		var c cell
		committed := api.Slot{}
		for version := 1; version <= 60; version++ {
			fresh := slotOf(kind, index, same(p, version), some(p.Cell, seed*100+version))
			var number int
			c, number = behind(t, p, c, fresh, committed.Cell)
			if at, s := found(t, p, c.pair(), kind, index, version); at != number || !sameSlot(s, fresh) {
				t.Fatalf("%v: the version %d is told as %d, %s", p, version, at, told(s))
			}
			if committed.Cell != 0 {
				if _, s := found(t, p, c.pair(), kind, index, committed.Cell); !sameSlot(s, committed) {
					t.Fatalf("%v: of the version %d, which is kept, %s is left behind %d", p, committed.Cell, told(s), version)
				}
			}
			if _, s, is, err := Newest(p, c.pair(), kind, index); !is || err != api.OK || !sameSlot(s, fresh) {
				t.Fatalf("%v: the newest behind %d is %s, %v, %d", p, version, told(s), is, err)
			}
			if throw.below(3) > 0 {
				committed = fresh
			}
		}
	}
}

// A version below those that are there is found behind its raw write, and the kept one, too.
func TestP11_5NewVersionsThatAreLess(t *testing.T) {
	for _, p := range few() {
		for _, index := range indices(p) {
			for _, keep := range []int{5, 9} {
				for _, c := range []cell{{contentOf(plain(p, 1, index, 5)), contentOf(plain(p, 1, index, 9))}, {contentOf(plain(p, 1, index, 9)), contentOf(plain(p, 1, index, 5))}} {
					after, _ := behind(t, p, c, plain(p, 1, index, 1), keep)
					_, s := found(t, p, after.pair(), 1, index, 1)
					_, kept := found(t, p, after.pair(), 1, index, keep)
					if !sameSlot(s, plain(p, 1, index, 1)) || !sameSlot(kept, plain(p, 1, index, keep)) {
						t.Fatalf("%v: in %s, keep %d, %s and %s are told", p, c.told(), keep, told(s), told(kept))
					}
				}
			}
		}
	}
}

// A pair is a value: what is put into a copy leaves the pair, and what is told of it.
func TestP11_5ChangedCopyLeavesThePair(t *testing.T) {
	for _, p := range few() {
		for _, index := range indices(p) {
			c := cell{contentOf(plain(p, 1, index, 3)), contentOf(plain(p, 1, index, 5))}
			two := c.pair()
			number, err := Older(p, two, 1, index, 5)
			if number != 0 || err != api.OK {
				t.Fatalf("%v: Older is %d, %d", p, number, err)
			}
			changed := two
			changed[number] = bytesOf(plain(p, 1, index, 7))
			if at, s := found(t, p, two, 1, index, 3); at != 0 || !sameSlot(s, c[0].slot) {
				t.Fatalf("%v: the pair tells %d, %s", p, at, told(s))
			}
			found(t, p, changed, 1, index, 7)
			refusedFind(t, p, changed, 1, index, 3, api.OK)
			refusedFind(t, p, two, 1, index, 7, api.OK)
		}
	}
}
