package slot

import (
	"bytes"
	"slices"
	"testing"

	"twoslot/api"
)

const spare = 20 // places behind the end of what is roomy

// roomy has spare room, in which bytes stand that nobody may change.
func roomy(b []byte) []byte {
	return append(bytes.Clone(b), filled(spare, 77)...)[:len(b)]
}

// untouched tells whether roomy bytes are as they were, their spare room with them.
func untouched(b, was []byte) bool {
	return len(b) == len(was) && bytes.Equal(b[:len(b)+spare], append(bytes.Clone(was), filled(spare, 77)...))
}

// roomySlot is a slot whose lists have spare room.
func roomySlot(s api.Slot) api.Slot {
	s.Vector = append(slices.Clone(s.Vector), slices.Repeat([]int{77}, spare)...)[:len(s.Vector)]
	s.Data = roomy(s.Data)
	return s
}

// untouchedSlot tells whether a roomy slot is as it was.
func untouchedSlot(s, was api.Slot) bool {
	if !sameSlot(s, was) || !untouched(s.Data, was.Data) {
		return false
	}
	return slices.Equal(s.Vector[:len(s.Vector)+spare], append(slices.Clone(was.Vector), slices.Repeat([]int{77}, spare)...))
}

// spoil writes into all of some bytes, their spare room with them, and behind their end.
func spoil(b []byte) {
	_ = append(b, 1, 2, 3)
	b = b[:cap(b)]
	for i := range b {
		b[i] ^= 0xff
	}
}

// spoilVector does so with versions.
func spoilVector(v []int) {
	_ = append(v, 1, 2, 3)
	v = v[:cap(v)]
	for i := range v {
		v[i] = -v[i] - 5
	}
}

func spoilSlot(s api.Slot) {
	spoilVector(s.Vector)
	spoil(s.Data)
}

// must is a call's bytes.
func must(t *testing.T, p api.Params, s api.Slot) []byte {
	t.Helper()
	b, err := Bytes(p, s)
	if err != api.OK {
		t.Fatalf("%v: Bytes of %s is %d", p, told(s), err)
	}
	return b
}

// mustParse is the slot that bytes are.
func mustParse(t *testing.T, p api.Params, b []byte) api.Slot {
	t.Helper()
	s, is, err := Parse(p, b)
	if err != api.OK || !is {
		t.Fatalf("%v: Parse of %v is %v, %d", p, b, is, err)
	}
	return s
}

func TestP10_3BytesOnlyReads(t *testing.T) {
	for _, p := range few() {
		for _, right := range rights(p) {
			all := []api.Slot{right}
			for _, wrong := range wrongs() {
				wrong(right, func(s api.Slot) { all = append(all, s) })
			}
			for _, was := range all {
				s := roomySlot(was)
				for _, by := range []api.Params{p, {}, exampleP()} {
					Bytes(by, s)
				}
				if !untouchedSlot(s, was) {
					t.Fatalf("%v: Bytes changes %s", p, told(was))
				}
			}
		}
	}
}

func TestP10_3ParseOnlyReads(t *testing.T) {
	for _, p := range few() {
		right := wantBytes(rights(p)[0])
		all := [][]byte{nil, {}, right, right[:1], right[:len(right)-1], append(bytes.Clone(right), 5), make([]byte, len(right)), filled(len(right), 255)}
		for place := range right {
			b := bytes.Clone(right)
			b[place]++
			all = append(all, b)
		}
		for _, was := range all {
			b := roomy(was)
			for _, by := range []api.Params{p, {}, exampleP()} {
				Parse(by, b)
			}
			if !untouched(b, was) {
				t.Fatalf("%v: Parse changes %v", p, was)
			}
		}
	}
}

func TestP10_3LaterWritesIntoWhatWasHandedIn(t *testing.T) {
	for _, p := range few() {
		for _, right := range rights(p) {
			s := roomySlot(right)
			made := must(t, p, s)
			spoilSlot(s)
			if !bytes.Equal(made, wantBytes(right)) {
				t.Fatalf("%v: a write into a slot changes what Bytes answered", p)
			}
			b := roomy(wantBytes(right))
			told := mustParse(t, p, b)
			spoil(b)
			if !sameSlot(told, right) {
				t.Fatalf("%v: a write into bytes changes what Parse answered", p)
			}
		}
	}
}

func TestP10_3WritesIntoWhatBytesAnswered(t *testing.T) {
	for _, p := range few() {
		for _, right := range rights(p) {
			s := roomySlot(right)
			kept := must(t, p, s)
			spoil(must(t, p, s))
			if !untouchedSlot(s, right) {
				t.Fatalf("%v: a write into what Bytes answered changes the slot", p)
			}
			if !bytes.Equal(kept, wantBytes(right)) || !bytes.Equal(must(t, p, s), wantBytes(right)) {
				t.Fatalf("%v: a write into what Bytes answered changes another answer", p)
			}
			checkParse(t, p, kept, right)
		}
	}
}

func TestP10_3WritesIntoWhatParseTold(t *testing.T) {
	for _, p := range few() {
		for _, right := range rights(p) {
			b := roomy(wantBytes(right))
			kept := mustParse(t, p, b)
			spoilSlot(mustParse(t, p, b))
			if !untouched(b, wantBytes(right)) {
				t.Fatalf("%v: a write into what Parse answered changes the bytes", p)
			}
			if !sameSlot(kept, right) || !sameSlot(mustParse(t, p, b), right) {
				t.Fatalf("%v: a write into what Parse answered changes another answer", p)
			}
			checkBytes(t, p, kept, wantBytes(right))
		}
	}
}

func TestP10_3PartsOfAnAnswerApart(t *testing.T) {
	for _, p := range few() {
		for _, right := range rights(p) {
			s := mustParse(t, p, wantBytes(right))
			spoilVector(s.Vector)
			if !bytes.Equal(s.Data, right.Data) {
				t.Fatalf("%v: a write into the vector changes the data", p)
			}
			s = mustParse(t, p, wantBytes(right))
			spoil(s.Data)
			if !slices.Equal(s.Vector, right.Vector) || s.Cell != right.Cell || s.Stripe != right.Stripe || s.Kind != right.Kind || s.Index != right.Index {
				t.Fatalf("%v: a write into the data changes another part", p)
			}
		}
	}
}

func TestP10_3SlotsThatShare(t *testing.T) {
	for _, p := range few() {
		right := slotOf(1, 0, same(p, 5), some(p.Cell, 6))
		b := wantBytes(right)
		within := right
		within.Data = b[len(b)-p.Cell:] // the data stand in other bytes, as those of a drive do
		made := must(t, p, within)
		made[len(made)-1]++
		if !bytes.Equal(b, wantBytes(right)) {
			t.Fatalf("%v: what Bytes answered shares memory with the slot's data", p)
		}
		first, second := mustParse(t, p, b), mustParse(t, p, b)
		other := first
		other.Kind = 2
		made = must(t, p, other)
		spoilSlot(first)
		if !sameSlot(second, right) || !bytes.Equal(made[3:], b[3:]) {
			t.Fatalf("%v: two answers share memory", p)
		}
	}
}

func TestP10_3NothingIsKept(t *testing.T) {
	for _, p := range few() {
		for _, right := range rights(p) {
			b := wantBytes(right)
			for _, wrong := range wrongs() {
				wrong(right, func(s api.Slot) { Bytes(p, s) })
			}
			Parse(p, make([]byte, len(b)))
			Parse(p, b[1:])
			Parse(p, nil)
			checkParse(t, p, b, right)
			checkBytes(t, p, right, b)
			noSlot(t, p, make([]byte, len(b)))
			noSlot(t, p, nil)
		}
	}
}
