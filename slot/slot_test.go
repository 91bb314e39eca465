package slot

import (
	"bytes"
	"math"
	"slices"
	"testing"

	"twoslot/api"
)

// noVersions are numbers that can't be a version; some have the last bytes of one that can.
func noVersions() []int {
	return []int{0, -1, -2, -most, math.MinInt, math.MinInt + 1, most + 1, most + 2, 2 * most, 3 * most, 1<<31 - 1, 1<<31 + 1, 1<<32 - 1, 1 << 32, 1<<32 + 1, 1<<32 + most, -1<<32 + 1, 1 << 62, math.MaxInt - 1, math.MaxInt}
}

// alike are other numbers that are the same as a number in their last byte, or in their last 4 bytes.
func alike(number int) []int {
	return []int{number + 256, number - 256, number + 65536, number + 1<<24, number + 1<<31, number + 1<<32, number - 1<<32, number + 1<<33, number ^ math.MinInt, number | 1<<62}
}

// wrongKinds are all but two of those that a Kind's type has.
func wrongKinds(s api.Slot, visit func(s api.Slot)) {
	for kind := range 256 {
		if kind != 1 && kind != 2 {
			s.Kind = uint8(kind)
			visit(s)
		}
	}
}

// wrongIndexes can't number a drive.
func wrongIndexes(s api.Slot, visit func(s api.Slot)) {
	n := len(s.Vector)
	for _, index := range append(alike(s.Index), -1, -2, -n, n, n+1, 2*n, 255, math.MinInt, math.MinInt+1, math.MaxInt-1, math.MaxInt) {
		s.Index = index
		visit(s)
	}
}

// wrongCells are not what the Vector says of the Index.
func wrongCells(s api.Slot, visit func(s api.Slot)) {
	right := s.Cell
	for _, cell := range append(append(append(alike(right), noVersions()...), s.Vector...), right-1, right+1) {
		if cell != right {
			s.Cell = cell
			visit(s)
		}
	}
}

// wrongStripes are not the greatest of the Vector.
func wrongStripes(s api.Slot, visit func(s api.Slot)) {
	right := s.Stripe
	for _, stripe := range append(append(append(alike(right), noVersions()...), s.Vector...), right-1, right+1) {
		if stripe != right {
			s.Stripe = stripe
			visit(s)
		}
	}
}

// wrongVectors are too short, too long, or have a number that can't be a version; where they can, Cell and Stripe fit to them.
func wrongVectors(s api.Slot, visit func(s api.Slot)) {
	right := s.Vector
	s.Vector = append(slices.Clone(right), 1)
	visit(s)
	s.Vector = slices.Concat(right, right)
	visit(s)
	for _, vector := range [][]int{nil, {}, right[:len(right)-1], right[1:]} {
		s.Vector = vector
		visit(s)
	}
	for place := range right {
		for _, number := range append(alike(right[place]), noVersions()...) {
			if number >= 1 && number <= most {
				continue // alike to a version, and one itself
			}
			s.Vector = with(right, place, number)
			visit(s)
			visit(slotOf(s.Kind, s.Index, s.Vector, s.Data))
		}
	}
	for _, number := range noVersions() {
		visit(slotOf(s.Kind, s.Index, slices.Repeat([]int{number}, len(right)), s.Data))
	}
}

// wrongDatas have other than a cell's bytes.
func wrongDatas(s api.Slot, visit func(s api.Slot)) {
	right := s.Data
	for _, many := range []int{0, 1, len(right) - 1, len(right) + 1, 2 * len(right), len(right) + 256, 1 << 16, 1<<16 + 1} {
		s.Data = filled(many, 9)
		visit(s)
	}
	s.Data = nil
	visit(s)
	s.Data = right[:len(right)-1] // a whole cell's with its spare room
	visit(s)
}

// wrongs make slots wrong, each one by one thing.
func wrongs() []func(s api.Slot, visit func(s api.Slot)) {
	return []func(s api.Slot, visit func(s api.Slot)){wrongKinds, wrongCells, wrongStripes, wrongVectors, wrongDatas, wrongIndexes}
}

// rights are some slots that may be, of both kinds, at the first and the last Index.
func rights(p api.Params) []api.Slot {
	n, data := p.K+p.R, datas(p)
	last, first := with(same(p, 3), n-1, 9), with(same(p, 3), 0, 9)
	return []api.Slot{
		slotOf(1, 0, last, data[0]),
		slotOf(2, n-1, first, data[1]),
		slotOf(1, n-1, same(p, most), data[3]),
		slotOf(2, n/2, same(p, 1), data[4]),
		slotOf(1, n/2, vectors(p)[4], data[2]),
	}
}

func TestP10_1Examples(t *testing.T) {
	if n, err := Size(exampleP()); n != 40 || err != api.OK {
		t.Fatalf("Size is %d, %d, want 40", n, err)
	}
	checkBytes(t, exampleP(), exampleSlot(), exampleBytes())
	for i, spoilt := range []func(s *api.Slot){
		func(s *api.Slot) { s.Stripe = 5 },
		func(s *api.Slot) { s.Cell = 7 },
		func(s *api.Slot) { s.Data = filled(15, 9) },
		func(s *api.Slot) { s.Index = 3 },
	} {
		s := exampleSlot()
		spoilt(&s)
		if b, err := Bytes(exampleP(), s); b != nil || err != api.ErrSlot {
			t.Fatalf("Bytes of the wrong example %d is %v, %d, want ErrSlot", i, b, err)
		}
	}
}

func TestP10_1SizeOfEveryParams(t *testing.T) {
	every(func(p api.Params) {
		if n, err := Size(p); n != wantSize(p) || err != api.OK {
			t.Fatalf("%v: Size is %d, %d, want %d", p, n, err, wantSize(p))
		}
	})
}

func TestP10_1SizeHangsNotOnRows(t *testing.T) {
	for _, p := range few() {
		for p.Rows = 8; p.Rows <= 256; p.Rows++ {
			if n, err := Size(p); n != wantSize(p) || err != api.OK {
				t.Fatalf("%v: Size is %d, %d, want %d", p, n, err, wantSize(p))
			}
		}
	}
}

func TestP10_1WrongParams(t *testing.T) {
	wrongParams(func(p api.Params) {
		if n, err := Size(p); n != 0 || err != api.ErrParams {
			t.Fatalf("%v: Size is %d, %d, want ErrParams", p, n, err)
		}
		for _, s := range []api.Slot{{}, exampleSlot(), {Kind: 3, Index: -1}} { // slots that may not be are told behind it
			refusedBytes(t, p, s, api.ErrParams)
		}
	})
}

func TestP10_1BytesOfMany(t *testing.T) {
	for _, p := range few() {
		slots(p, func(s api.Slot) { checkBytes(t, p, s, wantBytes(s)) })
	}
}

func TestP10_1BytesByEveryParams(t *testing.T) {
	every(func(p api.Params) {
		for _, s := range rights(p) {
			checkBytes(t, p, s, wantBytes(s))
		}
	})
}

func TestP10_1BytesBySingleWords(t *testing.T) {
	p := api.Params{K: 1, R: 0, Cell: 32, Rows: 8}
	checkBytes(t, p, slotOf(2, 0, []int{most}, make([]byte, 32)), append([]byte{84, 50, 2, 0, 64, 0, 0, 0, 64, 0, 0, 0, 64, 0, 0, 0}, make([]byte, 32)...))
	checkBytes(t, p, slotOf(1, 0, []int{0x01020304}, filled(32, 255)), append([]byte{84, 50, 1, 0, 1, 2, 3, 4, 1, 2, 3, 4, 1, 2, 3, 4}, filled(32, 255)...))
	q := api.Params{K: 2, R: 0, Cell: 16, Rows: 8}
	checkBytes(t, q, slotOf(1, 0, []int{1, most}, make([]byte, 16)), append([]byte{84, 50, 1, 0, 0, 0, 0, 1, 64, 0, 0, 0, 0, 0, 0, 1, 64, 0, 0, 0}, make([]byte, 16)...))
	checkBytes(t, q, slotOf(1, 1, []int{1, most}, make([]byte, 16)), append([]byte{84, 50, 1, 1, 64, 0, 0, 0, 64, 0, 0, 0, 0, 0, 0, 1, 64, 0, 0, 0}, make([]byte, 16)...))
}

func TestP10_1EveryVersionAtEveryPlace(t *testing.T) {
	for _, p := range few() {
		for place := range p.K + p.R {
			for index := range p.K + p.R {
				for _, version := range []int{1, 2, 255, 256, 65536, most - 1, most} {
					for _, beside := range []int{1, 300, most} {
						s := slotOf(1, index, with(same(p, beside), place, version), datas(p)[3])
						checkBytes(t, p, s, wantBytes(s))
						checkParse(t, p, wantBytes(s), s)
					}
				}
			}
		}
	}
}

func TestP10_1OneThingWrong(t *testing.T) {
	for _, p := range few() {
		for _, right := range rights(p) {
			checkBytes(t, p, right, wantBytes(right))
			for _, wrong := range wrongs() {
				wrong(right, func(s api.Slot) { refusedBytes(t, p, s, api.ErrSlot) })
			}
		}
	}
}

func TestP10_1TwoThingsWrong(t *testing.T) {
	p := api.Params{K: 3, R: 1, Cell: 11, Rows: 8}
	right := slotOf(1, 2, []int{4, 9, 5, 9}, some(11, 1))
	for i, wrong := range wrongs() {
		for _, also := range wrongs()[i+1:] {
			wrong(right, func(s api.Slot) {
				also(s, func(s api.Slot) { refusedBytes(t, p, s, api.ErrSlot) })
			})
		}
	}
	for _, s := range []api.Slot{{}, {Kind: 1}, {Kind: 1, Index: -1, Vector: same(p, 1), Data: some(11, 1)}, {Kind: 9, Index: math.MinInt, Cell: math.MaxInt, Stripe: math.MinInt}} {
		refusedBytes(t, p, s, api.ErrSlot)
	}
}

func TestP10_1SlotsOfOtherParams(t *testing.T) {
	for _, p := range few() {
		for _, q := range few() {
			for _, s := range rights(q) {
				if !wantMay(p, s) {
					refusedBytes(t, p, s, api.ErrSlot)
				} else {
					checkBytes(t, p, s, wantBytes(s))
				}
			}
		}
	}
}

func TestP10_2Examples(t *testing.T) {
	checkParse(t, exampleP(), exampleBytes(), exampleSlot())
	noSlot(t, exampleP(), nil)
	noSlot(t, exampleP(), []byte{})
	noSlot(t, exampleP(), make([]byte, 40))
	refusedParse(t, exampleP(), make([]byte, 39), api.ErrSlot)
}

func TestP10_2WrongParams(t *testing.T) {
	wrongParams(func(p api.Params) {
		for _, b := range [][]byte{nil, {}, exampleBytes(), exampleBytes()[:39], filled(1, 84), make([]byte, 40)} {
			refusedParse(t, p, b, api.ErrParams)
		}
	})
}

func TestP10_2ParseOfMany(t *testing.T) {
	for _, p := range few() {
		slots(p, func(s api.Slot) { checkParse(t, p, wantBytes(s), s) })
	}
}

func TestP10_2ParseByEveryParams(t *testing.T) {
	every(func(p api.Params) {
		for _, s := range rights(p) {
			checkParse(t, p, wantBytes(s), s)
		}
	})
}

func TestP10_2NoBytes(t *testing.T) {
	for _, p := range few() {
		whole := wantBytes(rights(p)[0])
		for _, b := range [][]byte{nil, {}, make([]byte, 0, wantSize(p)), whole[:0], whole[len(whole):]} {
			noSlot(t, p, b)
		}
	}
}

func TestP10_2WrongSizes(t *testing.T) {
	for _, p := range few() {
		right := wantBytes(rights(p)[0])
		for many := 1; many <= 3*len(right); many++ {
			if many == len(right) {
				continue
			}
			refusedParse(t, p, filled(many, 0), api.ErrSlot)
			refusedParse(t, p, filled(many, 255), api.ErrSlot)
			refusedParse(t, p, append(slices.Clone(right), right...)[:min(many, 2*len(right))], api.ErrSlot)
			if many < len(right) {
				refusedParse(t, p, right[len(right)-many:], api.ErrSlot)
			}
		}
		refusedParse(t, p, append(slices.Clone(right), 0), api.ErrSlot)
		refusedParse(t, p, make([]byte, 1<<16), api.ErrSlot)
		refusedParse(t, p, make([]byte, 1<<16+1), api.ErrSlot)
		refusedParse(t, p, make([]byte, 1<<16+len(right)), api.ErrSlot)
	}
}

func TestP10_2OneByteForAll(t *testing.T) {
	for _, p := range few() {
		for value := range 256 {
			noSlot(t, p, filled(wantSize(p), byte(value)))
		}
	}
}

// changed tells what bytes of a slot are, if one of them, at a place, has another value.
func changed(p api.Params, s api.Slot, place int, value byte) (api.Slot, bool) {
	n := p.K + p.R
	switch behind := 12 + 4*n; {
	case place < 2: // the mark
		return s, false
	case place == 2:
		s.Kind = value
		return s, value == 1 || value == 2
	case place == 3: // another drive, of the same version
		s.Index = int(value)
		return s, s.Index < n && s.Vector[s.Index] == s.Cell
	case place < 12: // Cell and Stripe are told by the Vector
		return s, false
	case place < behind:
		cell, weight := (place-12)/4, []int{16777216, 65536, 256, 1}[place%4]
		version := s.Vector[cell]
		version += (int(value) - version/weight%256) * weight
		s.Vector = with(s.Vector, cell, version)
		return s, cell != s.Index && version >= 1 && greatest(s.Vector) == s.Stripe
	default:
		s.Data = bytes.Clone(s.Data)
		s.Data[place-behind] = value
		return s, true
	}
}

func TestP10_2EverySingleByteChanged(t *testing.T) {
	for _, p := range few() {
		for _, right := range rights(p) {
			b := wantBytes(right)
			for place, was := range b {
				for value := range 256 {
					if b[place] = byte(value); b[place] == was {
						continue
					}
					if s, is := changed(p, right, place, byte(value)); is {
						checkParse(t, p, b, s)
					} else {
						noSlot(t, p, b)
					}
				}
				b[place] = was
			}
		}
	}
}

func TestP10_2BytesOfNoSlot(t *testing.T) {
	for _, p := range few() {
		for _, right := range rights(p) {
			for _, wrong := range wrongs() {
				wrong(right, func(s api.Slot) {
					if b := wrongBytes(s); len(b) == wantSize(p) && !bytes.Equal(b, wantBytes(right)) {
						noSlot(t, p, b)
					}
				})
			}
		}
	}
}

// wrongBytes are the bytes of a slot that may not be, if each of its numbers has room; else none.
func wrongBytes(s api.Slot) []byte {
	for _, number := range append([]int{s.Cell, s.Stripe}, s.Vector...) {
		if number < 0 || number >= 1<<32 {
			return nil
		}
	}
	if s.Index < 0 || s.Index > 255 {
		return nil
	}
	return wantBytes(s)
}

func TestP10_2GreatNumbers(t *testing.T) {
	for _, p := range few() {
		for _, number := range []int{most + 1, 1<<31 - 1, 1 << 31, 1<<31 + 1, 1<<31 + 7, 3 << 30, 1<<32 - 1, 0} {
			for place := range p.K + p.R {
				for index := range p.K + p.R {
					noSlot(t, p, wantBytes(slotOf(1, index, with(same(p, 7), place, number), datas(p)[3])))
				}
			}
			noSlot(t, p, wantBytes(slotOf(2, 0, same(p, number), datas(p)[3])))
			s := slotOf(2, 0, same(p, 7), datas(p)[3])
			s.Stripe = number
			noSlot(t, p, wantBytes(s))
			s.Cell = number
			noSlot(t, p, wantBytes(s))
			s.Stripe = 7
			noSlot(t, p, wantBytes(s))
		}
	}
}

func TestP10_2TwoBytesChanged(t *testing.T) {
	p := api.Params{K: 4, R: 0, Cell: 8, Rows: 8}
	right := slotOf(1, 1, []int{6, 2, 6, 1}, some(8, 5))
	b := wantBytes(right)
	for first := range b {
		for second := range first {
			for _, by := range []byte{1, 2, 4, 128} {
				b[first] ^= by
				b[second] ^= 3
				if s, may := read(p, b); may {
					checkParse(t, p, b, s)
				} else {
					noSlot(t, p, b)
				}
				b[first] ^= by
				b[second] ^= 3
			}
		}
	}
}

// read is what bytes of a slot's size are, by multiplying.
func read(p api.Params, b []byte) (api.Slot, bool) {
	number := func(from int) int {
		return int(b[from])*16777216 + int(b[from+1])*65536 + int(b[from+2])*256 + int(b[from+3])
	}
	s := api.Slot{Kind: b[2], Index: int(b[3]), Cell: number(4), Stripe: number(8)}
	for cell := range p.K + p.R {
		s.Vector = append(s.Vector, number(12+4*cell))
	}
	s.Data = bytes.Clone(b[len(b)-p.Cell:])
	return s, b[0] == 84 && b[1] == 50 && wantMay(p, s)
}

func TestP10_2AnyBytes(t *testing.T) {
	for seed := range 20000 {
		throw := dice(seed)
		p := few()[throw.below(len(few()))]
		b := some(wantSize(p), seed)
		copy(b, []byte{84, 50, byte(throw.below(4)), byte(throw.below(p.K + p.R + 1)), 0, 0, 0, byte(throw.below(3)), 0, 0, 0, byte(1 + throw.below(2))})
		for cell := range p.K + p.R {
			copy(b[12+4*cell:], []byte{0, 0, 0, byte(1 + throw.below(2))})
		}
		if s, may := read(p, b); may {
			checkParse(t, p, b, s)
			checkBytes(t, p, s, b)
		} else {
			noSlot(t, p, b)
		}
	}
}

func TestP10_4ThereAndBack(t *testing.T) {
	for _, p := range few() {
		slots(p, func(s api.Slot) {
			b, err := Bytes(p, s)
			if n, _ := Size(p); err != api.OK || len(b) != n {
				t.Fatalf("%v: Bytes of %s has %d bytes, %d", p, told(s), len(b), err)
			}
			checkParse(t, p, b, s)
			back, _, _ := Parse(p, b)
			checkBytes(t, p, back, b)
		})
	}
}

func TestP10_4BytesOfWhatParseTold(t *testing.T) {
	for _, p := range few() {
		right := wantBytes(rights(p)[3])
		for place := range right {
			for value := range 256 {
				b := bytes.Clone(right)
				b[place] = byte(value)
				if s, is, err := Parse(p, b); err == api.OK && is {
					checkBytes(t, p, s, b)
				}
			}
		}
	}
}

func TestP10_4UnlikeSlots(t *testing.T) {
	for _, p := range few() {
		by := map[string]api.Slot{}
		keep := func(s api.Slot) {
			b, err := Bytes(p, s)
			if other, was := by[string(b)]; err != api.OK || was && !sameSlot(s, other) {
				t.Fatalf("%v: %s and %s have the same bytes, %d", p, told(s), told(other), err)
			}
			by[string(b)] = s
		}
		slots(p, keep)
		for _, right := range rights(p) {
			keep(right)
			for i := range right.Data {
				s := right
				s.Data = bytes.Clone(right.Data)
				s.Data[i]++
				keep(s)
			}
			for place := range right.Vector {
				for _, version := range []int{1, 2, 4, 257, 65537, 1<<24 + 1, most} {
					keep(slotOf(right.Kind, right.Index, with(right.Vector, place, version), right.Data))
				}
			}
			for index := range right.Vector {
				keep(slotOf(3-right.Kind, index, right.Vector, right.Data))
				keep(slotOf(right.Kind, index, right.Vector, right.Data))
			}
		}
	}
}

func TestP10_4SameSlotSameBytes(t *testing.T) {
	for _, p := range few() {
		for _, s := range rights(p) {
			other := s
			other.Vector, other.Data = append(make([]int, 0, 50), s.Vector...), append(make([]byte, 0, 500), s.Data...)
			checkBytes(t, p, other, wantBytes(s))
			for range 3 {
				checkBytes(t, p, s, wantBytes(s))
				checkParse(t, p, wantBytes(s), other)
			}
		}
	}
}
