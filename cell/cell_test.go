package cell

import (
	"bytes"
	"math"
	"testing"

	"twoslot/api"
)

// exampleCell is the example's A(first) A(second); 0 is a blank slot.
func exampleCell(first, second int) cell {
	var made cell
	for number, version := range []int{first, second} {
		if version != 0 {
			made[number] = contentOf(slotOf(1, 0, []int{version, version, version}, filled(16, 6)))
		}
	}
	return made
}

func TestP11_1Examples(t *testing.T) {
	c := exampleCell(3, 5)
	if number, s, is, err := Find(exampleP(), c.pair(), 1, 0, 5); number != 1 || !sameSlot(s, c[1].slot) || !is || err != api.OK {
		t.Fatalf("Find of 5 is %d, %s, %v, %d", number, told(s), is, err)
	}
	refusedFind(t, exampleP(), c.pair(), 1, 0, 4, api.OK)
	refusedFind(t, exampleP(), c.pair(), 2, 0, 5, api.OK)
	refusedFind(t, exampleP(), c.pair(), 0, 0, 5, api.ErrParams)
	refusedFind(t, exampleP(), c.pair(), 1, 3, 5, api.ErrParams)
}

func TestP11_1FindInEveryPair(t *testing.T) {
	cells(func(p api.Params, c cell, index int) {
		for _, version := range versions() {
			checkFind(t, p, c, 1, index, version)
			checkFind(t, p, c, 2, index, version)
			checkFind(t, p, c, 1, (index+1)%(p.K+p.R), version)
		}
	})
}

func TestP11_1OfBothTheFirst(t *testing.T) {
	for _, p := range few() {
		for _, index := range indices(p) {
			a, b := slotOf(2, index, same(p, 8), some(p.Cell, 1)), slotOf(2, index, same(p, 8), some(p.Cell, 2))
			for _, c := range []cell{{contentOf(a), contentOf(b)}, {contentOf(b), contentOf(a)}, {contentOf(a), contentOf(a)}} {
				number, s, is, err := Find(p, c.pair(), 2, index, 8)
				if number != 0 || !sameSlot(s, c[0].slot) || !is || err != api.OK {
					t.Fatalf("%v: Find of what both hold is %d, %s, %v, %d", p, number, told(s), is, err)
				}
			}
		}
	}
}

// The Cell is the version that is looked for, neither the Stripe nor another cell's.
func TestP11_1NotTheStripe(t *testing.T) {
	for _, p := range few() {
		for index := range p.K + p.R {
			v := same(p, 4)
			for place := range v {
				v[place] += 10 * ((place + 1) % len(v))
			}
			c := cell{{}, contentOf(slotOf(1, index, v, some(p.Cell, 3)))}
			for _, version := range v {
				checkFind(t, p, c, 1, index, version)
				if _, _, is, _ := Find(p, c.pair(), 1, index, version); is != (version == v[index]) {
					t.Fatalf("%v: Find of %d in the vector %v, index %d, is %v", p, version, v, index, is)
				}
			}
		}
	}
}

func TestP11_1NoSlots(t *testing.T) {
	for _, p := range few() {
		for _, index := range indices(p) {
			held := contentOf(plain(p, 1, index, 5))
			for _, none := range noSlots(p, index) {
				for _, c := range []cell{{none, none}, {none, held}, {held, none}} {
					for _, version := range []int{1, 5, 6, most} {
						checkFind(t, p, c, 1, index, version)
						checkFind(t, p, c, 2, index, version)
					}
				}
			}
		}
	}
}

func TestP11_1ByEveryParams(t *testing.T) {
	every(func(p api.Params) {
		last := p.K + p.R - 1
		c := cell{contentOf(plain(p, 1, last, most)), contentOf(plain(p, 2, last, 1))}
		for _, kind := range []uint8{1, 2} {
			for _, version := range []int{1, most} {
				checkFind(t, p, c, kind, last, version)
				checkFind(t, p, c, kind, 0, version)
				checkOlder(t, p, c, kind, last, version)
			}
			checkNewest(t, p, c, kind, last)
		}
	})
}

func TestP11_2Examples(t *testing.T) {
	c := exampleCell(3, 5)
	if number, s, is, err := Newest(exampleP(), c.pair(), 1, 0); number != 1 || !sameSlot(s, c[1].slot) || !is || err != api.OK {
		t.Fatalf("Newest is %d, %s, %v, %d", number, told(s), is, err)
	}
	refusedNewest(t, exampleP(), api.Pair{}, 1, 0, api.OK)
}

func TestP11_2NewestInEveryPair(t *testing.T) {
	cells(func(p api.Params, c cell, index int) {
		for other := range p.K + p.R {
			checkNewest(t, p, c, 1, other)
			checkNewest(t, p, c, 2, other)
		}
	})
}

func TestP11_2GreatestByCellNotByStripe(t *testing.T) {
	p := exampleP()
	low, high := contentOf(slotOf(1, 1, []int{90, 4, 4}, some(16, 1))), contentOf(slotOf(1, 1, []int{5, 6, 6}, some(16, 2)))
	for _, c := range []cell{{low, high}, {high, low}} {
		if _, s, is, err := Newest(p, c.pair(), 1, 1); s.Cell != 6 || !is || err != api.OK {
			t.Fatalf("Newest of the Cells 4 and 6 is %s, %v, %d", told(s), is, err)
		}
	}
	both := cell{contentOf(slotOf(1, 1, []int{5, 4, 4}, some(16, 1))), low}
	if number, s, _, _ := Newest(p, both.pair(), 1, 1); number != 0 || !sameSlot(s, both[0].slot) {
		t.Fatalf("Newest of the Cells 4 and 4 is %d, %s", number, told(s))
	}
}

func TestP11_2NoSlots(t *testing.T) {
	for _, p := range few() {
		for _, index := range indices(p) {
			for _, none := range noSlots(p, index) {
				for _, version := range []int{1, 5, most} {
					held := contentOf(plain(p, 2, index, version))
					for _, c := range []cell{{none, none}, {none, held}, {held, none}} {
						checkNewest(t, p, c, 1, index)
						checkNewest(t, p, c, 2, index)
					}
				}
			}
		}
	}
}

// A greater version of the other kind or of another drive is not told.
func TestP11_2GreaterOfOthers(t *testing.T) {
	p := exampleP()
	mine := contentOf(plain(p, 1, 1, 2))
	for _, other := range []content{contentOf(plain(p, 2, 1, 9)), contentOf(plain(p, 1, 0, 9)), contentOf(plain(p, 1, 2, 9)), contentOf(plain(p, 2, 2, most))} {
		for number, c := range []cell{{mine, other}, {other, mine}} {
			if got, s, is, err := Newest(p, c.pair(), 1, 1); got != number || !sameSlot(s, mine.slot) || !is || err != api.OK {
				t.Fatalf("Newest in %s is %d, %s, %v, %d", c.told(), got, told(s), is, err)
			}
		}
	}
}

func TestP11_3Examples(t *testing.T) {
	for i, x := range []struct {
		c    cell
		kind uint8
		keep int
		want int
	}{
		{exampleCell(3, 5), 1, 5, 0},
		{exampleCell(3, 5), 1, 3, 1},
		{exampleCell(3, 5), 1, 0, 0},
		{exampleCell(3, 5), 1, 9, 0},
		{exampleCell(3, 0), 1, 0, 1},
		{exampleCell(3, 0), 1, 3, 1},
		{exampleCell(0, 3), 2, 3, 0},
	} {
		if number, err := Older(exampleP(), x.c.pair(), x.kind, 0, x.keep); number != x.want || err != api.OK {
			t.Fatalf("Older of the example %d is %d, %d, want %d", i, number, err, x.want)
		}
	}
	refusedOlder(t, exampleP(), exampleCell(3, 5).pair(), 1, 0, -1, api.ErrParams)
}

func TestP11_3OlderInEveryPair(t *testing.T) {
	cells(func(p api.Params, c cell, index int) {
		for _, keep := range append(versions(), 0) {
			checkOlder(t, p, c, 1, index, keep)
			checkOlder(t, p, c, 2, index, keep)
			checkOlder(t, p, c, 1, (index+1)%(p.K+p.R), keep)
		}
	})
}

func TestP11_3CaseByCase(t *testing.T) {
	p := exampleP()
	at := func(kind uint8, index, version int) []byte { return bytesOf(plain(p, kind, index, version)) }
	for i, x := range []struct {
		first, second []byte
		keep          int
		want          int
	}{
		{at(1, 1, 4), at(1, 1, 4), 4, 1}, // both hold it: the slot 0 is kept
		{at(1, 1, 4), at(1, 1, 4), 0, 0},
		{at(1, 1, 4), at(1, 1, 4), 5, 0},
		{nil, nil, 0, 0},
		{nil, nil, 4, 0},
		{make([]byte, 40), filled(40, 255), 4, 0},
		{at(1, 1, 4), filled(40, 255), 0, 1},
		{filled(40, 255), at(1, 1, 4), 0, 0},
		{filled(40, 255), at(1, 1, 4), 4, 0},
		{at(2, 1, 9), at(1, 1, 4), 0, 1}, // the kinds are not looked at
		{at(2, 1, 4), at(1, 1, 9), 0, 0},
		{at(1, 1, 9), at(2, 1, 4), 0, 1},
		{at(1, 1, 4), at(2, 1, 9), 0, 0},
		{at(2, 1, 4), at(1, 1, 4), 0, 0},
		{at(2, 1, 4), at(1, 1, 4), 4, 0}, // of the kind that is kept the slot 1 holds it
		{at(1, 1, 4), at(2, 1, 4), 4, 1},
		{at(2, 1, 4), at(2, 1, 3), 4, 1}, // only of the other kind: nothing of this one to be kept
		{at(2, 1, 3), at(2, 1, 4), 3, 0},
		{at(1, 1, 4), at(1, 2, 1), 0, 1}, // of another drive: it holds nothing
		{at(1, 2, 9), at(1, 1, 4), 0, 0},
		{at(1, 2, 9), at(1, 0, 4), 0, 0},
		{at(1, 0, 4), at(1, 2, 4), 4, 0},
		{at(1, 1, 4), at(1, 2, 4), 4, 1},
		{at(1, 2, 4), at(1, 1, 4), 4, 0},
		{at(1, 1, most), at(1, 1, 1), 0, 1},
		{at(1, 1, most), at(1, 1, 1), 1, 0},
		{at(1, 1, 1), at(1, 1, most), most, 0},
		{at(1, 1, 1), at(1, 1, most), 1, 1},
	} {
		if number, err := Older(p, api.Pair{x.first, x.second}, 1, 1, x.keep); number != x.want || err != api.OK {
			t.Fatalf("Older of the case %d is %d, %d, want %d", i, number, err, x.want)
		}
	}
}

func TestP11_3NoSlots(t *testing.T) {
	for _, p := range few() {
		for _, index := range indices(p) {
			for _, none := range noSlots(p, index) {
				for _, version := range []int{1, 5, most} {
					held := contentOf(plain(p, 2, index, version))
					for _, c := range []cell{{none, none}, {none, held}, {held, none}} {
						for _, keep := range []int{0, 1, 5, 6, most} {
							checkOlder(t, p, c, 1, index, keep)
							checkOlder(t, p, c, 2, index, keep)
						}
					}
				}
			}
		}
	}
}

// A kept version is looked for as Cell, neither as Stripe nor as another cell's.
func TestP11_3KeptByCell(t *testing.T) {
	p := exampleP()
	a, b := contentOf(slotOf(1, 1, []int{9, 4, 6}, some(16, 1))), contentOf(slotOf(1, 1, []int{4, 3, 9}, some(16, 2)))
	for _, x := range []struct {
		c          cell
		keep, want int
	}{{cell{a, b}, 9, 1}, {cell{a, b}, 6, 1}, {cell{a, b}, 4, 1}, {cell{a, b}, 3, 0}, {cell{b, a}, 9, 0}, {cell{b, a}, 4, 0}, {cell{b, a}, 3, 1}} {
		if number, err := Older(p, x.c.pair(), 1, 1, x.keep); number != x.want || err != api.OK {
			t.Fatalf("Older in %s, keep %d, is %d, %d, want %d", x.c.told(), x.keep, number, err, x.want)
		}
	}
}

// wrongKinds are all that are none.
func wrongKinds() []uint8 {
	all := []uint8{0}
	for kind := 3; kind < 256; kind++ {
		all = append(all, uint8(kind))
	}
	return all
}

// alike are other numbers that are the same as a number in their last byte, or in their last 4 bytes.
func alike(number int) []int {
	return []int{number + 1<<32, number - 1<<32, number + 1<<33, number ^ math.MinInt, number | 1<<62}
}

func wrongIndices(p api.Params) []int {
	n := p.K + p.R
	all := []int{-1, -2, -n, n, n + 1, 2 * n, 255, 256, -256, 65536, math.MinInt, math.MinInt + 1, math.MaxInt - 1, math.MaxInt}
	for index := range n {
		all = append(append(all, alike(index)...), index+256, index-256, index+65536, index+1<<24)
	}
	return all
}

// wrongKeeps can't be versions, and can't be kept.
func wrongKeeps() []int {
	all := []int{-1, -2, -5, -most, most + 1, most + 2, 2 * most, 2*most + 5, 3 * most, 1<<31 - 1, 1 << 31, 1<<31 + 5, 1 << 32, -1 << 32, 1 << 62, math.MinInt, math.MinInt + 1, math.MaxInt - 1, math.MaxInt}
	for _, version := range []int{1, 3, 5, most} {
		all = append(append(all, alike(version)...), version-256*most, version-1<<31)
	}
	return all
}

// wrongPairs have slots of other sizes than a slot's, in either place.
func wrongPairs(p api.Params) []api.Pair {
	right := bytesOf(plain(p, 1, 0, 5))
	size := len(right)
	bads := [][]byte{right[:1], {0}, right[:size-1], right[1:], append(bytes.Clone(right), 0), filled(2*size, 84), make([]byte, size+256), make([]byte, 1<<16), make([]byte, 1<<16+size), right[:4], right[:12]}
	var all []api.Pair
	for _, bad := range bads {
		all = append(all, api.Pair{bad, nil}, api.Pair{nil, bad}, api.Pair{bad, right}, api.Pair{right, bad}, api.Pair{bad, bad})
	}
	return all
}

// rightPairs are some in which all calls find something, or nothing.
func rightPairs(p api.Params) []api.Pair {
	return []api.Pair{
		{},
		{bytesOf(plain(p, 1, 0, 3)), bytesOf(plain(p, 1, 0, 5))},
		{bytesOf(plain(p, 2, p.K+p.R-1, most)), nil},
		{nil, bytesOf(plain(p, 2, 0, 1))},
		{filled(12+4*(p.K+p.R)+p.Cell, 255), bytesOf(plain(p, 1, p.K+p.R-1, 5))},
	}
}

func TestP11_1WrongParamsOfAllCalls(t *testing.T) {
	right := exampleCell(3, 5).pair()
	wrongParams(func(p api.Params) {
		for _, two := range []api.Pair{{}, right, {right[0], right[1][1:]}, {{1}, {1}}, {right[0][1:], nil}} {
			refusedAll(t, p, two, 1, 0, 5, api.ErrParams)
			refusedAll(t, p, two, 0, 0, 5, api.ErrParams)
			refusedAll(t, p, two, 1, -1, 5, api.ErrParams)
			refusedAll(t, p, two, 1, 0, -1, api.ErrParams)
			refusedAll(t, p, two, 3, math.MaxInt, math.MinInt, api.ErrParams)
		}
	})
}

// A pair that may not be is told ahead of all other arguments.
func TestP11_1WrongPairsOfAllCalls(t *testing.T) {
	for _, p := range few() {
		n := p.K + p.R
		for _, two := range wrongPairs(p) {
			for _, kind := range []uint8{1, 2, 0, 3, 255} {
				for _, index := range []int{0, n - 1, -1, n, math.MinInt, math.MaxInt} {
					for _, version := range []int{0, 1, 5, most, -1, most + 1, math.MinInt, math.MaxInt} {
						refusedAll(t, p, two, kind, index, version, api.ErrSlot)
					}
				}
			}
		}
	}
}

func TestP11_1PairsOfOtherParams(t *testing.T) {
	for _, p := range few() {
		for _, q := range few() {
			two := rightPairs(q)[1]
			if len(two[0]) == 12+4*(p.K+p.R)+p.Cell {
				continue
			}
			refusedAll(t, p, two, 1, 0, 5, api.ErrSlot)
			refusedAll(t, p, api.Pair{nil, two[1]}, 1, 0, 5, api.ErrSlot)
			refusedAll(t, p, api.Pair{two[0], nil}, 1, 0, 5, api.ErrSlot)
		}
	}
}

func TestP11_1WrongKindsOfAllCalls(t *testing.T) {
	for _, p := range few() {
		for _, two := range rightPairs(p) {
			for _, kind := range wrongKinds() {
				for _, index := range []int{0, p.K + p.R - 1, -1, p.K + p.R} {
					for _, version := range []int{1, 5, most, -1, most + 1} {
						refusedAll(t, p, two, kind, index, version, api.ErrParams)
					}
				}
				refusedOlder(t, p, two, kind, 0, 0, api.ErrParams)
			}
		}
	}
}

func TestP11_1WrongIndicesOfAllCalls(t *testing.T) {
	for _, p := range few() {
		for _, two := range rightPairs(p) {
			for _, index := range wrongIndices(p) {
				for _, kind := range []uint8{1, 2, 0, 3} {
					for _, version := range []int{1, 5, most, -1, most + 1} {
						refusedAll(t, p, two, kind, index, version, api.ErrParams)
					}
					refusedOlder(t, p, two, kind, index, 0, api.ErrParams)
				}
			}
		}
	}
}

func TestP11_1WrongVersions(t *testing.T) {
	for _, p := range few() {
		for _, two := range rightPairs(p) {
			for _, version := range append(wrongKeeps(), 0) {
				for _, index := range indices(p) {
					refusedFind(t, p, two, 1, index, version, api.ErrParams)
					refusedFind(t, p, two, 2, index, version, api.ErrParams)
				}
			}
		}
	}
}

func TestP11_3WrongKeeps(t *testing.T) {
	for _, p := range few() {
		for _, two := range rightPairs(p) {
			for _, keep := range wrongKeeps() {
				for _, index := range indices(p) {
					refusedOlder(t, p, two, 1, index, keep, api.ErrParams)
					refusedOlder(t, p, two, 2, index, keep, api.ErrParams)
				}
			}
		}
	}
}

// Each of the parameters' numbers that may be is one; none of the right inputs is refused.
func TestP11_1RightInputs(t *testing.T) {
	for _, p := range few() {
		for _, two := range rightPairs(p) {
			for index := range p.K + p.R {
				for _, kind := range []uint8{1, 2} {
					for _, version := range versions() {
						_, _, _, found := Find(p, two, kind, index, version)
						_, _, _, newest := Newest(p, two, kind, index)
						_, older := Older(p, two, kind, index, version)
						_, none := Older(p, two, kind, index, 0)
						if found != api.OK || newest != api.OK || older != api.OK || none != api.OK {
							t.Fatalf("%v: kind %d, index %d, version %d is refused: %d %d %d %d", p, kind, index, version, found, newest, older, none)
						}
					}
				}
			}
		}
	}
}
