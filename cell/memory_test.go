package cell

import (
	"bytes"
	"math"
	"slices"
	"testing"

	"twoslot/api"
)

const spare = 20 // places behind the end of what is roomy

// roomy has spare room, in which bytes stand that nobody may change.
func roomy(b []byte) []byte {
	return append(bytes.Clone(b), filled(spare, 77)...)[:len(b)]
}

func roomyPair(two api.Pair) api.Pair { return api.Pair{roomy(two[0]), roomy(two[1])} }

// untouched tells whether a roomy pair is as it was, its spare room with it.
func untouched(two, was api.Pair) bool {
	for number, b := range two {
		if len(b) != len(was[number]) || !bytes.Equal(b[:len(b)+spare], append(bytes.Clone(was[number]), filled(spare, 77)...)) {
			return false
		}
	}
	return true
}

// spoil writes into all of some bytes, their spare room with them, and behind their end.
func spoil(b []byte) {
	_ = append(b, 1, 2, 3)
	b = b[:cap(b)]
	for i := range b {
		b[i] ^= 0xff
	}
}

// spoilVector does so with versions.
func spoilVector(v []int) {
	_ = append(v, 1, 2, 3)
	v = v[:cap(v)]
	for i := range v {
		v[i] = -v[i] - 5
	}
}

// asked are the calls that tell a slot of a pair, each with the number that it tells.
func asked(index int) []func(p api.Params, two api.Pair) (int, api.Slot, bool, api.Errno) {
	find := func(version int) func(p api.Params, two api.Pair) (int, api.Slot, bool, api.Errno) {
		return func(p api.Params, two api.Pair) (int, api.Slot, bool, api.Errno) {
			return Find(p, two, 1, index, version)
		}
	}
	newest := func(p api.Params, two api.Pair) (int, api.Slot, bool, api.Errno) {
		return Newest(p, two, 1, index)
	}
	return []func(p api.Params, two api.Pair) (int, api.Slot, bool, api.Errno){find(3), find(5), newest}
}

// asking calls visit with each such call, and with pairs in which it tells a slot.
func asking(visit func(p api.Params, c cell, ask func(two api.Pair) (int, api.Slot))) {
	for _, p := range few() {
		for _, index := range indices(p) {
			three, five := contentOf(plain(p, 1, index, 3)), contentOf(plain(p, 1, index, 5))
			for _, c := range []cell{{three, five}, {five, three}, {three, three}, {five, five}, {three, {}}, {{}, five}} {
				for _, call := range asked(index) {
					if _, _, is, err := call(p, c.pair()); !is || err != api.OK {
						continue
					}
					visit(p, c, func(two api.Pair) (int, api.Slot) {
						number, s, _, _ := call(p, two)
						return number, s
					})
				}
			}
		}
	}
}

// callAll makes all calls, right ones and wrong ones.
func callAll(p api.Params, two api.Pair) {
	for _, kind := range []uint8{0, 1, 2, 3} {
		for _, index := range []int{-1, 0, p.K + p.R - 1, p.K + p.R} {
			Newest(p, two, kind, index)
			for _, version := range []int{-1, 0, 1, 3, 5, most, math.MaxInt} {
				Find(p, two, kind, index, version)
				Older(p, two, kind, index, version)
			}
		}
	}
}

func TestP11_4OnlyReads(t *testing.T) {
	for _, p := range few() {
		all := append(rightPairs(p), wrongPairs(p)...)
		for _, none := range noSlots(p, 0) {
			all = append(all, api.Pair{none.bytes, bytesOf(plain(p, 1, 0, 3))}, api.Pair{bytesOf(plain(p, 2, 0, 3)), none.bytes})
		}
		for _, was := range all {
			two := roomyPair(was)
			for _, by := range []api.Params{p, {}, exampleP()} {
				callAll(by, two)
			}
			if !untouched(two, was) {
				t.Fatalf("%v: a call changes the pair %v", p, was)
			}
		}
	}
}

func TestP11_4PairsWithinOneMemory(t *testing.T) {
	for _, p := range few() {
		for _, index := range indices(p) {
			three, five := bytesOf(plain(p, 1, index, 3)), bytesOf(plain(p, 1, index, 5))
			drive := slices.Concat(three, five)
			was, size := bytes.Clone(drive), len(three)
			for _, two := range []api.Pair{{drive[:size], drive[size:]}, {drive[size:], drive[:size]}, {drive[:size], drive[:size]}} {
				callAll(p, two)
				for _, call := range asked(index) {
					_, s, _, _ := call(p, two)
					spoilVector(s.Vector)
					spoil(s.Data)
				}
			}
			if !bytes.Equal(drive, was) {
				t.Fatalf("%v: a call, or a write into an answer, changes the drive", p)
			}
		}
	}
}

func TestP11_4LaterWritesIntoWhatWasHandedIn(t *testing.T) {
	asking(func(p api.Params, c cell, ask func(two api.Pair) (int, api.Slot)) {
		two := roomyPair(c.pair())
		number, s := ask(two)
		spoil(two[0])
		spoil(two[1])
		two[0], two[1] = nil, nil
		if !sameSlot(s, c[number].slot) {
			t.Fatalf("%v: a write into the pair %s changes an answer", p, c.told())
		}
	})
}

func TestP11_4WritesIntoAnswers(t *testing.T) {
	asking(func(p api.Params, c cell, ask func(two api.Pair) (int, api.Slot)) {
		two := roomyPair(c.pair())
		_, kept := ask(two)
		number, s := ask(two)
		spoilVector(s.Vector)
		spoil(s.Data)
		if !untouched(two, c.pair()) {
			t.Fatalf("%v: a write into an answer changes the pair %s", p, c.told())
		}
		at, later := ask(two)
		if !sameSlot(kept, c[number].slot) || at != number || !sameSlot(later, c[number].slot) {
			t.Fatalf("%v: a write into an answer changes another answer in %s", p, c.told())
		}
	})
}

func TestP11_4PartsOfAnAnswerApart(t *testing.T) {
	asking(func(p api.Params, c cell, ask func(two api.Pair) (int, api.Slot)) {
		number, s := ask(c.pair())
		spoilVector(s.Vector)
		if want := c[number].slot; !bytes.Equal(s.Data, want.Data) || s.Cell != want.Cell || s.Stripe != want.Stripe {
			t.Fatalf("%v: a write into the vector changes another part", p)
		}
		number, s = ask(c.pair())
		spoil(s.Data)
		if want := c[number].slot; !slices.Equal(s.Vector, want.Vector) || s.Cell != want.Cell || s.Stripe != want.Stripe {
			t.Fatalf("%v: a write into the data changes another part", p)
		}
	})
}

// Answers of unlike calls about one slot share nothing.
func TestP11_4AnswersOfUnlikeCalls(t *testing.T) {
	for _, p := range few() {
		c := cell{contentOf(plain(p, 1, 0, 3)), contentOf(plain(p, 1, 0, 5))}
		_, found, _, _ := Find(p, c.pair(), 1, 0, 5)
		_, newest, _, _ := Newest(p, c.pair(), 1, 0)
		spoilVector(found.Vector)
		spoil(found.Data)
		if !sameSlot(newest, c[1].slot) {
			t.Fatalf("%v: a write into what Find told changes what Newest told", p)
		}
	}
}

// What was asked earlier changes no answer.
func TestP11_4NothingIsKept(t *testing.T) {
	for _, p := range few() {
		for _, index := range indices(p) {
			c := cell{contentOf(plain(p, 1, index, 3)), contentOf(plain(p, 2, index, 5))}
			for _, two := range append(rightPairs(p), wrongPairs(p)...) {
				callAll(p, two)
				callAll(exampleP(), two)
				for _, kind := range []uint8{1, 2} {
					for _, version := range []int{3, 5} {
						checkFind(t, p, c, kind, index, version)
						checkOlder(t, p, c, kind, index, version)
					}
					checkNewest(t, p, c, kind, index)
					checkNewest(t, p, cell{}, kind, index)
				}
			}
		}
	}
}
