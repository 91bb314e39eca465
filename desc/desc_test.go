package desc

import (
	"bytes"
	"slices"
	"testing"

	"twoslot/api"
)

func TestP15_1Examples(t *testing.T) {
	p := exampleP()
	checkBytes(t, p, api.Desc{Length: 70, Refs: []api.Ref{{Row: 3, Version: 5}, {Row: 1, Version: 6}}},
		append([]byte{0, 0, 0, 70, 0, 0, 2, 0, 3, 0, 0, 0, 5, 0, 1, 0, 0, 0, 6}, make([]byte, 45)...))
	checkBytes(t, p, api.Desc{}, make([]byte, 64))
	one := []api.Ref{{Row: 3, Version: 5}}
	two := append(one, one...)
	refused(t, p, api.Desc{Length: 70, Refs: one}, api.ErrDesc)
	refused(t, p, api.Desc{Length: 70, Depth: 1, Refs: one}, api.ErrDesc)
	refused(t, p, api.Desc{Length: 70, Depth: 1, Refs: two}, api.ErrDesc)
	refused(t, p, api.Desc{Length: 1, Refs: []api.Ref{{Row: 32, Version: 5}}}, api.ErrDesc)
	for many := range 12 {
		refused(t, p, api.Desc{Length: 5761, Depth: 1, Refs: ofMany(p, many, 3)}, api.ErrDesc)
	}
}

// What of the bytes is which number is written out here, without a rule.
func TestP15_1BytesBySingleWords(t *testing.T) {
	p := api.Params{K: 4, R: 0, Cell: 8, Rows: 256} // Direct 4, Leaf 5, Most 640
	checkBytes(t, p, api.Desc{Length: 1, Refs: []api.Ref{{Row: 255, Version: most}}},
		append([]byte{0, 0, 0, 1, 0, 0, 1, 0, 255, 64, 0, 0, 0}, make([]byte, 19)...))
	checkBytes(t, p, api.Desc{Length: 128, Refs: []api.Ref{{Row: 1, Version: 0x01020304}, {Row: 0, Version: 1}, {Row: 255, Version: 0x3ffffffe}, {Row: 128, Version: 0x00ff0100}}},
		[]byte{0, 0, 0, 128, 0, 0, 4, 0, 1, 1, 2, 3, 4, 0, 0, 0, 0, 0, 1, 0, 255, 63, 255, 255, 254, 0, 128, 0, 255, 1, 0, 0})
	checkBytes(t, p, api.Desc{Length: 129, Depth: 1, Refs: []api.Ref{{Row: 7, Version: 9}}},
		append([]byte{0, 0, 0, 129, 1, 0, 1, 0, 7, 0, 0, 0, 9}, make([]byte, 19)...))
	checkBytes(t, p, api.Desc{Length: 640, Depth: 1, Refs: []api.Ref{{Row: 7, Version: 9}, {Row: 7, Version: 9}, {Row: 8, Version: 1}, {Row: 0, Version: 2}}},
		[]byte{0, 0, 2, 128, 1, 0, 4, 0, 7, 0, 0, 0, 9, 0, 7, 0, 0, 0, 9, 0, 8, 0, 0, 0, 1, 0, 0, 0, 0, 0, 2, 0})
	wide := api.Params{K: 12, R: 4, Cell: 64, Rows: 256} // Direct 126, Most MaxObject
	refs := slices.Repeat([]api.Ref{{Row: 9, Version: 5}}, 43)
	checkBytes(t, wide, api.Desc{Length: 32768, Refs: refs},
		append(append([]byte{0, 0, 128, 0, 0, 0, 43}, bytes.Repeat([]byte{0, 9, 0, 0, 0, 5}, 43)...), make([]byte, 768-7-43*6)...))
}

func TestP15_1BytesOfMany(t *testing.T) {
	for _, p := range few() {
		descs(p, func(d api.Desc) { checkBytes(t, p, d, wantBytes(p, d)) })
	}
}

func TestP15_1BytesByEveryParams(t *testing.T) {
	every(func(p api.Params) {
		for _, d := range rights(p) {
			checkBytes(t, p, d, wantBytes(p, d))
		}
	})
}

// Every length has its Depth and its number of Refs: no other Depth, none fewer, none more.
func TestP15_1EveryLength(t *testing.T) {
	for _, p := range few() {
		m := measured(p)
		refs := ofMany(p, m.direct+m.leaf+2, 3)
		for length := -1; length <= m.most+1; length++ {
			may := length >= 0 && length <= m.most
			depth, many := shaped(p, length)
			for _, other := range []int{-1, 0, 1, 2} {
				for _, count := range []int{0, many - 1, many, many + 1} {
					if count < 0 {
						continue
					}
					want := api.ErrDesc
					if may && other == depth && count == many {
						want = api.OK
					}
					if err := Check(p, api.Desc{Length: length, Depth: other, Refs: refs[:count]}); err != want {
						t.Fatalf("%v: Check of length %d, depth %d, %d refs is %d, want %d", p, length, other, count, err, want)
					}
				}
			}
		}
	}
}

// Any number of Refs but that of the length is wrong, also that of the other Depth.
func TestP15_1EveryNumberOfRefs(t *testing.T) {
	for _, p := range few() {
		m := measured(p)
		refs := ofMany(p, 2*m.direct+m.leaf, 4)
		for _, length := range lengths(p) {
			depth, many := shaped(p, length)
			for count := range len(refs) + 1 {
				d := api.Desc{Length: length, Depth: depth, Refs: refs[:count]}
				if count == many {
					checkBytes(t, p, d, wantBytes(p, d))
				} else {
					refused(t, p, d, api.ErrDesc)
				}
				d.Depth = 1 - depth
				refused(t, p, d, api.ErrDesc)
			}
		}
	}
}

// Where an object's stripes are all that a descriptor has room for its Depth is still 0; with a byte more it has leaves.
func TestP15_1WhereDepth1Begins(t *testing.T) {
	begins := 0
	every(func(p api.Params) {
		m := measured(p)
		full := m.direct * m.width
		if full >= m.most {
			if d := descOf(p, m.most, 3); d.Depth == 0 {
				checkBytes(t, p, d, wantBytes(p, d))
			}
			return
		}
		begins++
		direct := api.Desc{Length: full, Refs: ofMany(p, m.direct, 3)}
		checkBytes(t, p, direct, wantBytes(p, direct))
		many := 1
		if m.direct+1 > m.leaf {
			many = 2
		}
		behind := api.Desc{Length: full + 1, Depth: 1, Refs: ofMany(p, many, 3)}
		checkBytes(t, p, behind, wantBytes(p, behind))
		direct.Length++
		refused(t, p, direct, api.ErrDesc)
		behind.Length--
		refused(t, p, behind, api.ErrDesc)
	})
	if begins == 0 {
		t.Fatal("no parameters with leaves were tried")
	}
}

// Each of its versions and rows stands at its own place.
func TestP15_1EveryRefAtEveryPlace(t *testing.T) {
	for _, p := range few() {
		right := rights(p)[3]
		for place := range right.Refs {
			for _, r := range []api.Ref{{Row: 0, Version: 1}, {Row: p.Rows - 1, Version: most}, {Row: p.Rows - 1, Version: 1}, {Row: 0, Version: most}, {Row: p.Rows / 2, Version: 0x12345678}, {Row: 1, Version: 256}} {
				d := with(right, place, r)
				checkBytes(t, p, d, wantBytes(p, d))
				checkParse(t, p, wantBytes(p, d), d)
			}
		}
	}
}

func TestP15_1EveryRow(t *testing.T) {
	for _, p := range few() {
		for row := -2; row <= 258; row++ {
			d := api.Desc{Length: 1, Refs: []api.Ref{{Row: row, Version: 3}}}
			if row >= 0 && row < p.Rows {
				checkBytes(t, p, d, wantBytes(p, d))
			} else {
				refused(t, p, d, api.ErrDesc)
			}
		}
	}
}

// A descriptor without Refs has none, be its list nil or not.
func TestP15_1NoRefs(t *testing.T) {
	every(func(p api.Params) {
		for _, none := range [][]api.Ref{nil, {}, make([]api.Ref, 0, 5), ofMany(p, 3, 1)[:0]} {
			checkBytes(t, p, api.Desc{Refs: none}, make([]byte, p.K*p.Cell))
			refused(t, p, api.Desc{Length: 1, Refs: none}, api.ErrDesc)
			refused(t, p, api.Desc{Depth: 1, Refs: none}, api.ErrDesc)
		}
	})
}

func TestP15_2Examples(t *testing.T) {
	checkParse(t, exampleP(), make([]byte, 64), api.Desc{})
	refusedParse(t, exampleP(), make([]byte, 63), api.ErrSize)
	refusedParse(t, exampleP(), filled(64, 1), api.ErrDesc)
}

// The descriptor of the length 0 is read as the zero value, without a list that is empty and yet not nil.
func TestP15_2NoRefs(t *testing.T) {
	every(func(p api.Params) {
		if d, err := Parse(p, make([]byte, p.K*p.Cell)); err != api.OK || !zero(d) {
			t.Fatalf("%v: Parse of bytes 0 is %s, %d, its Refs are nil: %v", p, told(d), err, d.Refs == nil)
		}
	})
}

func TestP15_2ParseOfMany(t *testing.T) {
	for _, p := range few() {
		descs(p, func(d api.Desc) { checkParse(t, p, wantBytes(p, d), d) })
	}
}

func TestP15_2ParseByEveryParams(t *testing.T) {
	every(func(p api.Params) {
		for _, d := range rights(p) {
			checkParse(t, p, wantBytes(p, d), d)
		}
	})
}

func TestP15_2OneByteForAll(t *testing.T) {
	for _, p := range few() {
		checkParse(t, p, make([]byte, p.K*p.Cell), api.Desc{})
		for value := 1; value < 256; value++ {
			refusedParse(t, p, filled(p.K*p.Cell, byte(value)), api.ErrDesc)
		}
	}
}

// valuesFor are the values that a byte is given: all of them, but in wide stripes some.
func valuesFor(p api.Params) []byte {
	var all []byte
	for value := range 256 {
		if p.K*p.Cell <= 110 || value < 4 || value > 252 || value%37 == 0 || value == 64 || value == 128 {
			all = append(all, byte(value))
		}
	}
	return all
}

func TestP15_2EverySingleByteChanged(t *testing.T) {
	for _, p := range few() {
		values := valuesFor(p)
		for _, right := range rights(p) {
			b := wantBytes(p, right)
			for place, was := range b {
				for _, value := range values {
					b[place] = value
					asWanted(t, p, b)
				}
				b[place] = was
			}
		}
	}
}

// Behind the Refs stands no byte but 0, at no place, be it all that a descriptor says or the last one of the width.
func TestP15_2BytesBehindTheRefs(t *testing.T) {
	every(func(p api.Params) {
		for _, d := range rights(p) {
			b := wantBytes(p, d)
			for place := 7 + 6*len(d.Refs); place < len(b); place++ {
				for _, value := range []byte{1, 128, 255} {
					b[place] = value
					refusedParse(t, p, b, api.ErrDesc)
				}
				b[place] = 0
			}
			checkParse(t, p, b, d)
		}
	})
}

// A whole Ref more than the length needs is refused, whether it is counted or not; so is one fewer.
func TestP15_2NumbersOfRefs(t *testing.T) {
	for _, p := range few() {
		m := measured(p)
		for _, right := range rights(p) {
			for count := range m.direct + 1 {
				if count == len(right.Refs) {
					continue
				}
				d := right
				d.Refs = ofMany(p, count, 3)
				b := wantBytes(p, d)
				refusedParse(t, p, b, api.ErrDesc)
				copy(b, wantBytes(p, right)[:7]) // the number that must be, ahead of more Refs or fewer
				refusedParse(t, p, b, api.ErrDesc)
			}
		}
	}
}

// A number of Refs for which there is no room, or which is right in its last byte, is refused.
func TestP15_2GreatNumbersOfRefs(t *testing.T) {
	for _, p := range few() {
		for _, right := range rights(p) {
			b := wantBytes(p, right)
			for many := range 1 << 16 {
				if many == len(right.Refs) || many > 300 && many%256 != len(right.Refs) && many%97 != 0 && many < 1<<16-9 {
					continue
				}
				b[5], b[6] = byte(many/256), byte(many%256)
				refusedParse(t, p, b, api.ErrDesc)
			}
		}
	}
}

// A length that is right in its last bytes is refused.
func TestP15_2GreatLengths(t *testing.T) {
	for _, p := range few() {
		for _, right := range rights(p) {
			for _, also := range []int{1 << 15, 1 << 16, 1 << 24, 1 << 30, 1 << 31, 1<<32 - 1<<16, 255 << 24} {
				d := right
				if d.Length |= also; d.Length == right.Length || d.Length == 1<<15 && wantMay(p, d) {
					continue
				}
				refusedParse(t, p, wantBytes(p, d), api.ErrDesc)
			}
		}
	}
}

// Versions and rows that are right in their last bytes are refused, at every place.
func TestP15_2GreatNumbersInRefs(t *testing.T) {
	for _, p := range few() {
		for _, right := range rights(p) {
			for place, r := range right.Refs {
				for _, version := range []int{0, most + 1, most | r.Version | 1, 1<<31 - 1, 1 << 31, 1<<31 | r.Version, 3 << 30, 1<<32 - 1} {
					refusedParse(t, p, wantBytes(p, with(right, place, api.Ref{Row: r.Row, Version: version})), api.ErrDesc)
				}
				for _, row := range []int{p.Rows, p.Rows + 1, 256, 256 + r.Row, 1<<15 + r.Row, 65535} {
					refusedParse(t, p, wantBytes(p, with(right, place, api.Ref{Row: row, Version: r.Version})), api.ErrDesc)
				}
			}
		}
	}
}

// Every Depth but the length's is refused, be there as many Refs as this needs or as the other one would.
func TestP15_2EveryDepth(t *testing.T) {
	for _, p := range few() {
		for _, right := range rights(p) {
			for depth := range 256 {
				if b := wantBytes(p, right); depth != right.Depth {
					b[4] = byte(depth)
					refusedParse(t, p, b, api.ErrDesc)
				}
			}
		}
	}
}

// Bytes that are nearly a descriptor: numbers that may be and that may not be, in any mixture.
func TestP15_2AnyBytes(t *testing.T) {
	said := 0
	for seed := range 20000 {
		throw := dice(seed)
		p := few()[throw.below(len(few()))]
		d := descOf(p, lengths(p)[throw.below(len(lengths(p)))], 4+throw.below(50))
		b := wantBytes(p, d)
		for range throw.below(3) {
			b[throw.below(min(len(b), 20))] = byte(throw.below(3))
		}
		for range throw.below(2) {
			b[throw.below(len(b))] ^= 1 << throw.below(8)
		}
		if _, is := wantParse(p, b); is {
			said++
		}
		asWanted(t, p, b)
	}
	if said < 2000 || said > 18000 {
		t.Fatalf("%d of the bytes are a descriptor", said)
	}
}

func TestP15_5ThereAndBack(t *testing.T) {
	for _, p := range few() {
		descs(p, func(d api.Desc) {
			b, err := Bytes(p, d)
			if err != api.OK || len(b) != p.K*p.Cell {
				t.Fatalf("%v: Bytes of %s has %d bytes, %d", p, told(d), len(b), err)
			}
			checkParse(t, p, b, d)
			back, _ := Parse(p, b)
			checkBytes(t, p, back, b)
		})
	}
}

func TestP15_5BytesOfWhatParseTold(t *testing.T) {
	for _, p := range few() {
		for _, right := range rights(p)[1:] {
			b := wantBytes(p, right)
			for place, was := range b[:7+6*len(right.Refs)] {
				for value := range 256 {
					b[place] = byte(value)
					if d, err := Parse(p, b); err == api.OK {
						checkBytes(t, p, d, b)
					}
				}
				b[place] = was
			}
		}
	}
}

// No two descriptors of these have the same bytes, but those that are the same.
func TestP15_5UnlikeDescriptors(t *testing.T) {
	for _, p := range few() {
		by := map[string]api.Desc{}
		keep := func(d api.Desc) {
			b, err := Bytes(p, d)
			if other, was := by[string(b)]; err != api.OK || was && !sameDesc(d, other) {
				t.Fatalf("%v: %s and %s have the same bytes, %d", p, told(d), told(other), err)
			}
			by[string(b)] = d
		}
		descs(p, keep)
		for _, length := range lengths(p) {
			for turn := range 40 {
				keep(descOf(p, length, turn))
			}
		}
		for _, right := range rights(p) {
			for place, r := range right.Refs {
				for bit := range 30 {
					keep(with(right, place, api.Ref{Row: r.Row, Version: max(1, r.Version^1<<bit)}))
				}
				for row := range p.Rows {
					keep(with(right, place, api.Ref{Row: row, Version: r.Version}))
				}
			}
		}
	}
}

// Descriptors of lengths by which they have the same Refs are still unlike.
func TestP15_5EveryLengthHasBytesOfItsOwn(t *testing.T) {
	for _, p := range few()[:4] {
		by := map[string]int{}
		for length := range measured(p).most + 1 {
			d := descOf(p, length, 0)
			b, err := Bytes(p, d)
			if other, was := by[string(b)]; err != api.OK || was {
				t.Fatalf("%v: the lengths %d and %d have the same bytes, %d", p, length, other, err)
			}
			by[string(b)] = length
			checkParse(t, p, b, d)
		}
	}
}

// What the same descriptor is made of, and what spare room it has, is not seen in its bytes.
func TestP15_5SameDescriptorSameBytes(t *testing.T) {
	for _, p := range few() {
		for _, d := range rights(p) {
			other := d
			other.Refs = append(make([]api.Ref, 0, 200), d.Refs...)
			for range 3 {
				checkBytes(t, p, d, wantBytes(p, d))
				checkBytes(t, p, other, wantBytes(p, d))
				checkParse(t, p, wantBytes(p, d), other)
			}
		}
	}
}

// with is a descriptor with another Ref at a place.
func with(d api.Desc, place int, r api.Ref) api.Desc {
	d.Refs = slices.Clone(d.Refs)
	d.Refs[place] = r
	return d
}
