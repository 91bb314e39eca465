package desc

import (
	"testing"

	"twoslot/api"
)

func TestP15_3Examples(t *testing.T) {
	p := exampleP()
	one := []api.Ref{{Row: 3, Version: 5}}
	b := append([]byte{0, 3, 0, 0, 0, 5}, make([]byte, 58)...)
	checkLeaf(t, p, one, b)
	refusedLeaf(t, p, nil, api.ErrSize)
	refusedLeaf(t, p, ofMany(p, 11, 3), api.ErrSize)
	checkRefs(t, p, b, one)
	refusedRefs(t, p, b, 2, api.ErrDesc)
	refusedRefs(t, p, b, 0, api.ErrSize)
}

// What of the bytes is which number is written out here, without a rule.
func TestP15_3LeavesBySingleWords(t *testing.T) {
	p := api.Params{K: 1, R: 0, Cell: 32, Rows: 256}
	l := []api.Ref{{Row: 255, Version: most}, {Row: 0, Version: 1}, {Row: 1, Version: 0x01020304}, {Row: 254, Version: 0x3fffffff}, {Row: 16, Version: 0x00ff0100}}
	b := []byte{0, 255, 64, 0, 0, 0, 0, 0, 0, 0, 0, 1, 0, 1, 1, 2, 3, 4, 0, 254, 63, 255, 255, 255, 0, 16, 0, 255, 1, 0, 0, 0}
	checkLeaf(t, p, l, b)
	checkRefs(t, p, b, l)
	b[30] = 1
	refusedRefs(t, p, b, 5, api.ErrDesc)
	full := api.Params{K: 6, R: 0, Cell: 8, Rows: 8} // 48 bytes: 8 Refs, and none is left
	l = ofMany(full, 8, 1)
	b = []byte{0, 7, 64, 0, 0, 0, 0, 7, 64, 0, 0, 0, 0, 7, 64, 0, 0, 0, 0, 7, 64, 0, 0, 0, 0, 7, 64, 0, 0, 0, 0, 7, 64, 0, 0, 0, 0, 7, 64, 0, 0, 0, 0, 7, 64, 0, 0, 0}
	checkLeaf(t, full, l, b)
	checkRefs(t, full, b, l)
}

func TestP15_3LeavesOfMany(t *testing.T) {
	for _, p := range few() {
		leaves(p, func(l []api.Ref) {
			checkLeaf(t, p, l, wantLeaf(p, l))
			checkRefs(t, p, wantLeaf(p, l), l)
		})
	}
}

// Every number of Refs from 1 to Leaf makes a leaf, no other one does.
func TestP15_3EveryNumberOfRefs(t *testing.T) {
	every(func(p api.Params) {
		m := measured(p)
		all := ofMany(p, 2*m.leaf, 4)
		for many := range all {
			if l := all[:many]; many >= 1 && many <= m.leaf {
				checkLeaf(t, p, l, wantLeaf(p, l))
				checkRefs(t, p, wantLeaf(p, l), l)
			} else {
				refusedLeaf(t, p, l, api.ErrSize)
				refusedRefs(t, p, wantLeaf(p, all[:m.leaf]), many, api.ErrSize)
			}
		}
	})
}

// A leaf read as if it had another number of Refs is none: one behind its last is not a Ref, one less leaves bytes behind.
func TestP15_3OtherNumbersThanWereWritten(t *testing.T) {
	for _, p := range few() {
		m := measured(p)
		for many := 1; many <= m.leaf; many++ {
			b := wantLeaf(p, ofMany(p, many, 3))
			for n := 1; n <= m.leaf; n++ {
				if n != many {
					refusedRefs(t, p, b, n, api.ErrDesc)
				}
			}
		}
	}
}

func TestP15_3EveryRefAtEveryPlace(t *testing.T) {
	for _, p := range few() {
		l := ofMany(p, measured(p).leaf, 4)
		for place, was := range l {
			for _, r := range []api.Ref{{Row: 0, Version: 1}, {Row: p.Rows - 1, Version: most}, {Row: p.Rows - 1, Version: 1}, {Row: 0, Version: most}, {Row: p.Rows / 2, Version: 0x12345678}, {Row: 1, Version: 256}} {
				l[place] = r
				checkLeaf(t, p, l, wantLeaf(p, l))
				checkRefs(t, p, wantLeaf(p, l), l)
			}
			l[place] = was
		}
	}
}

func TestP15_3EveryRow(t *testing.T) {
	for _, p := range few() {
		for row := -2; row <= 258; row++ {
			l := []api.Ref{{Row: 0, Version: 1}, {Row: row, Version: 3}}
			if row >= 0 && row < p.Rows {
				checkLeaf(t, p, l, wantLeaf(p, l))
				checkRefs(t, p, wantLeaf(p, l), l)
				continue
			}
			refusedLeaf(t, p, l, api.ErrDesc)
			if row >= 0 {
				refusedRefs(t, p, wantLeaf(p, l), 2, api.ErrDesc)
			}
		}
	}
}

func TestP15_3EverySingleByteChanged(t *testing.T) {
	for _, p := range few() {
		values, m := valuesFor(p), measured(p)
		for _, many := range []int{1, 2, m.leaf - 1, m.leaf} {
			b := wantLeaf(p, ofMany(p, many, 2))
			for place, was := range b {
				for _, value := range values {
					b[place] = value
					refsAsWanted(t, p, b, many)
				}
				b[place] = was
			}
		}
	}
}

// Behind the Refs stands no byte but 0, at no place.
func TestP15_3BytesBehindTheRefs(t *testing.T) {
	every(func(p api.Params) {
		m := measured(p)
		for _, many := range []int{1, m.leaf / 2, m.leaf} {
			l := ofMany(p, many, 1)
			b := wantLeaf(p, l)
			for place := 6 * many; place < len(b); place++ {
				for _, value := range []byte{1, 128, 255} {
					b[place] = value
					refusedRefs(t, p, b, many, api.ErrDesc)
				}
				b[place] = 0
			}
			checkRefs(t, p, b, l)
		}
	})
}

// Bytes 0 are no leaf, nor are those of any other single value but where it makes Refs that may be.
func TestP15_3OneByteForAll(t *testing.T) {
	for _, p := range few() {
		for value := range 256 {
			b := filled(p.K*p.Cell, byte(value))
			for _, n := range []int{1, 2, measured(p).leaf} {
				refsAsWanted(t, p, b, n)
			}
		}
	}
}

// Numbers that are right in their last bytes are refused, at every place.
func TestP15_3GreatNumbers(t *testing.T) {
	for _, p := range few() {
		l := ofMany(p, measured(p).leaf, 3)
		for place, was := range l {
			for _, version := range []int{0, most + 1, most | was.Version, 1<<31 - 1, 1 << 31, 1<<31 | was.Version, 3 << 30, 1<<32 - 1} {
				l[place].Version = version
				refusedRefs(t, p, wantLeaf(p, l), len(l), api.ErrDesc)
			}
			l[place] = was
			for _, row := range []int{p.Rows, p.Rows + 1, 256, 256 + was.Row, 1<<15 + was.Row, 65535} {
				l[place].Row = row
				refusedRefs(t, p, wantLeaf(p, l), len(l), api.ErrDesc)
			}
			l[place] = was
		}
	}
}

func TestP15_3AnyBytes(t *testing.T) {
	said := 0
	for seed := range 20000 {
		throw := dice(seed)
		p := few()[throw.below(len(few()))]
		many := 1 + throw.below(measured(p).leaf)
		b := wantLeaf(p, ofMany(p, many, 4+throw.below(50)))
		for range throw.below(3) {
			b[throw.below(len(b))] ^= 1 << throw.below(8)
		}
		if _, is := wantRefs(p, b, many); is {
			said++
		}
		refsAsWanted(t, p, b, many)
	}
	if said < 2000 || said > 18000 {
		t.Fatalf("%d of the bytes are a leaf", said)
	}
}

func TestP15_5LeavesThereAndBack(t *testing.T) {
	every(func(p api.Params) {
		leaves(p, func(l []api.Ref) {
			b, err := Leaf(p, l)
			if err != api.OK || len(b) != p.K*p.Cell {
				t.Fatalf("%v: Leaf of%s has %d bytes, %d", p, toldRefs(l), len(b), err)
			}
			checkRefs(t, p, b, l)
			back, _ := Refs(p, b, len(l))
			checkLeaf(t, p, back, b)
		})
	})
}

func TestP15_5LeafOfWhatRefsTold(t *testing.T) {
	for _, p := range few() {
		for _, many := range []int{1, measured(p).leaf} {
			b := wantLeaf(p, ofMany(p, many, 2))
			for place, was := range b {
				for _, value := range valuesFor(p) {
					b[place] = value
					if l, err := Refs(p, b, many); err == api.OK {
						checkLeaf(t, p, l, b)
					}
				}
				b[place] = was
			}
		}
	}
}
