package tree

import (
	"bytes"
	"math"
	"slices"
	"testing"

	"twoslot/api"
)

// wrongNumbers are numbers of no row: beyond the ends, the greatest and the least of all, and such as are alike in their last bytes.
func wrongNumbers(p api.Params) []int {
	all := []int{-1, -2, p.Rows, p.Rows + 1, 257, 65536, -65536, -p.Rows, 1 << 31, -1 << 31, math.MinInt, math.MinInt + 1, math.MaxInt - 1, math.MaxInt}
	for _, right := range []int{0, 3, p.Rows - 1} {
		all = append(all, right+1<<32, right-1<<32, right+1<<33, right^math.MinInt, right|1<<62)
	}
	return all
}

// rightImage has an object of Most in the row 3; no call on it is refused.
func rightImage(p api.Params) (known, object) {
	return blank(p).built(3, 5, measured(p).most, 9)
}

// wrongImages have too few slots or too many, none, or a slot that may not be in a place.
func wrongImages(p api.Params, right api.Image) []api.Image {
	slots, size := right.Slots, sizeOf(p)
	var all []api.Image
	for _, l := range [][][]byte{nil, {}, slots[:len(slots)-1], slots[1:], slots[:len(slots)/2], append(slices.Clone(slots), nil), append(slices.Clone(slots), slots...), make([][]byte, len(slots)+2)} {
		all = append(all, api.Image{P: p, Slots: l})
	}
	for _, at := range []int{0, 1, 2 * 3, 2*3 + 1, len(slots) / 2, len(slots) - 2, len(slots) - 1} {
		for _, bad := range [][]byte{{0}, {84, 50}, filled(size-1, 84), filled(size+1, 84), filled(2*size, 0), make([]byte, 1<<16+size)} {
			l := slices.Clone(slots)
			l[at] = bad
			all = append(all, api.Image{P: p, Slots: l})
		}
	}
	return all
}

func TestP17_1NoImage(t *testing.T) {
	for _, row := range append(wrongNumbers(exampleP()), 0, 3, 7) {
		refuses(t, api.Image{}, row, api.ErrParams)
		refuses(t, api.Image{Slots: make([][]byte, 48)}, row, api.ErrParams)
		refuses(t, api.Image{P: exampleP()}, row, api.ErrImage)
	}
}

// Parameters are told ahead of all else, whatever else is wrong.
func TestP17_1WrongParams(t *testing.T) {
	k, _ := rightImage(exampleP())
	right := k.image().Slots
	wrongParams(func(p api.Params) {
		for _, slots := range [][][]byte{right, nil, right[:5], make([][]byte, 48), {{1}}} {
			for _, row := range []int{0, 3, -1, p.Rows, math.MinInt, math.MaxInt} {
				refuses(t, api.Image{P: p, Slots: slots}, row, api.ErrParams)
			}
		}
	})
}

// An image that may not be is told ahead of rows that are not there, and of rows without a winner.
func TestP17_1WrongImages(t *testing.T) {
	for _, p := range few() {
		k, o := rightImage(p)
		tells(t, k.image(), 3, o)
		for _, m := range wrongImages(p, k.image()) {
			for _, row := range []int{3, 0, p.Rows - 1, -1, p.Rows, math.MinInt, math.MaxInt} {
				refuses(t, m, row, api.ErrImage)
			}
		}
	}
}

func TestP17_1ImagesOfOtherParams(t *testing.T) {
	for _, p := range few() {
		for _, q := range few() {
			k, _ := rightImage(q)
			if (p.K+p.R)*p.Rows != (q.K+q.R)*q.Rows || sizeOf(p) != sizeOf(q) {
				refuses(t, api.Image{P: p, Slots: k.image().Slots}, 3, api.ErrImage)
			}
		}
	}
}

func TestP17_1WrongNumbers(t *testing.T) {
	for _, p := range few() {
		k, _ := rightImage(p)
		for _, row := range wrongNumbers(p) {
			if row >= 0 && row < p.Rows {
				continue // the parameters have it so
			}
			refuses(t, k.image(), row, api.ErrParams)
			refuses(t, blank(p).image(), row, api.ErrParams)
		}
	}
}

// Without a winner nothing is told, be there versions that too few drives hold, slots of KindData, or vectors of several versions.
func TestP17_1NoWinner(t *testing.T) {
	for _, p := range few() {
		n := p.K + p.R
		data := descBytes(p, api.Desc{})
		all := []known{
			blank(p),
			blank(p).having(3, 0, 2, same(p, 5), data, upTo(0, p.K-1)...),
			blank(p).having(3, 1, 2, same(p, most), data, upTo(n-p.K+1, n)...),
			blank(p).whole(3, 0, 1, 5, data),
			blank(p).whole(3, 0, 1, 5, data).having(3, 1, 2, same(p, 5), data, upTo(0, p.K-1)...),
			blank(p).whole(2, 0, 2, 5, data),
			blank(p).whole(4, 1, 2, 5, data),
		}
		if n > 1 {
			all = append(all, blank(p).having(3, 0, 2, with(same(p, 5), 4, n-1), data, upTo(0, n)...))
		}
		for _, k := range all {
			refuses(t, k.image(), 3, api.ErrLost)
			check(t, k, 3)
		}
	}
}

// A slot ahead of the others that tells the winner with another vector makes that too few of its cells can be read.
func TestP17_1WinnerThatCanNotBeRead(t *testing.T) {
	for _, p := range few() {
		n := p.K + p.R
		if p.R == 0 || p.K == 1 {
			continue // the first drive is needed then, or one cell is enough
		}
		k := blank(p).having(3, 0, 2, same(p, 5), descBytes(p, api.Desc{}), upTo(1, n)...)
		tells(t, k.image(), 3, object{version: 5})
		v := with(same(p, 4), 5, 0)
		k = k.having(3, 0, 2, v, descBytes(p, api.Desc{}), 0)
		refuses(t, k.image(), 3, api.ErrLost)
		check(t, k, 3)
	}
}

// wrongDescs are data of a stripe that are no descriptor.
func wrongDescs(p api.Params) [][]byte {
	m := measured(p)
	all := [][]byte{filled(m.width, 1), filled(m.width, 255), leafBytes(p, refsOf(p, m.leaf, 3))}
	for _, length := range []int{0, 1, m.width + 1, m.most} {
		depth, many := shaped(p, length)
		right := api.Desc{Length: length, Depth: depth, Refs: refsOf(p, many, 4)}
		for _, place := range []int{0, 1, 4, 5, 6} {
			b := descBytes(p, right)
			b[place] += 3
			all = append(all, b)
		}
		if behind := 7 + 6*many; behind < m.width {
			b, last := descBytes(p, right), descBytes(p, right)
			b[behind]++
			last[m.width-1]++
			all = append(all, b, last)
		}
		for _, bad := range []api.Ref{{Row: p.Rows, Version: 1}, {Row: 65535, Version: 1}, {Row: 0, Version: 0}, {Row: 0, Version: most + 1}, {Row: 0, Version: 1<<32 - 1}} {
			for _, at := range []int{0, many - 1} {
				if many > 0 {
					d := right
					d.Refs = slices.Clone(right.Refs)
					d.Refs[at] = bad
					all = append(all, descBytes(p, d))
				}
			}
		}
	}
	return append(all, descBytes(p, api.Desc{Length: m.most + 1}))
}

func TestP17_1NoDescriptor(t *testing.T) {
	for _, p := range few() {
		for _, data := range wrongDescs(p) {
			if _, is := readDesc(p, data); is {
				continue // the parameters have it so
			}
			k, _ := blank(p).built(3, 5, measured(p).most, 9)
			k = k.lost(3).whole(3, 0, 2, 5, data)
			refuses(t, k.image(), 3, api.ErrDesc)
			older := k.whole(3, 1, 2, 4, descBytes(p, api.Desc{}))
			refuses(t, older.image(), 3, api.ErrDesc)
		}
	}
}

// broken is a way in which a leaf is wrong, and what is answered then.
type broken struct {
	what string
	err  api.Errno
	make func(k known, at api.Ref, held []api.Ref) known
}

// gone are ways in which a leaf is not there.
func gone() []broken {
	return []broken{
		{"blank", api.ErrLost, func(k known, at api.Ref, _ []api.Ref) known { return k.lost(at.Row) }},
		{"of too few cells", api.ErrLost, func(k known, at api.Ref, held []api.Ref) known {
			return k.lost(at.Row).having(at.Row, 1, 1, same(k.p, at.Version), leafBytes(k.p, held), upTo(0, k.p.K-1)...)
		}},
		{"of the version below", api.ErrLost, func(k known, at api.Ref, held []api.Ref) known {
			return k.lost(at.Row).whole(at.Row, 0, 1, at.Version-1, leafBytes(k.p, held))
		}},
		{"of the version above", api.ErrLost, func(k known, at api.Ref, held []api.Ref) known {
			return k.lost(at.Row).whole(at.Row, 0, 1, at.Version+1, leafBytes(k.p, held))
		}},
		{"of two other versions", api.ErrLost, func(k known, at api.Ref, held []api.Ref) known {
			return k.lost(at.Row).whole(at.Row, 0, 1, at.Version+1, leafBytes(k.p, held)).whole(at.Row, 1, 1, at.Version-1, leafBytes(k.p, held))
		}},
		{"of KindDesc", api.ErrLost, func(k known, at api.Ref, held []api.Ref) known {
			return k.lost(at.Row).whole(at.Row, 0, 2, at.Version, leafBytes(k.p, held))
		}},
		{"in another row", api.ErrLost, func(k known, at api.Ref, held []api.Ref) known {
			return k.lost(at.Row).whole(k.p.Rows-1, 0, 1, at.Version, leafBytes(k.p, held))
		}},
	}
}

// noRefs are ways in which a leaf's bytes are not the refs that must be there.
func noRefs() []broken {
	data := func(what string, change func(k known, held []api.Ref) []byte) broken {
		return broken{what, api.ErrDesc, func(k known, at api.Ref, held []api.Ref) known {
			return k.lost(at.Row).whole(at.Row, 1, 1, at.Version, change(k, held))
		}}
	}
	bad := func(what string, last bool, r api.Ref) broken {
		return data(what, func(k known, held []api.Ref) []byte {
			refs := slices.Clone(held)
			if r.Row < 0 {
				r.Row = k.p.Rows
			}
			refs[0] = r
			if last {
				refs[0] = held[0]
				refs[len(refs)-1] = r
			}
			return leafBytes(k.p, refs)
		})
	}
	return []broken{
		data("0 everywhere", func(k known, _ []api.Ref) []byte { return make([]byte, k.p.K*k.p.Cell) }),
		data("255 everywhere", func(k known, _ []api.Ref) []byte { return filled(k.p.K*k.p.Cell, 255) }),
		data("with one ref fewer", func(k known, held []api.Ref) []byte { return leafBytes(k.p, held[:len(held)-1]) }),
		bad("with a first ref of the row Rows", false, api.Ref{Row: -1, Version: 1}),
		bad("with a last ref of the row Rows", true, api.Ref{Row: -1, Version: 1}),
		bad("with a ref of the row 65535", false, api.Ref{Row: 65535, Version: 1}),
		bad("with a first ref of the version 0", false, api.Ref{Row: 0, Version: 0}),
		bad("with a last ref of the version 0", true, api.Ref{Row: 0, Version: 0}),
		bad("with a ref of a version too great", true, api.Ref{Row: 0, Version: most + 1}),
		bad("with a ref of the greatest number", false, api.Ref{Row: 0, Version: 1<<32 - 1}),
	}
}

// behindRefs are leaves that have bytes behind the last ref, where there is room.
func behindRefs() []broken {
	return []broken{
		{"with a ref more", api.ErrDesc, func(k known, at api.Ref, held []api.Ref) known {
			return k.lost(at.Row).whole(at.Row, 0, 1, at.Version, leafBytes(k.p, append(slices.Clone(held), api.Ref{Row: 1, Version: 1})))
		}},
		{"with a byte behind the last ref", api.ErrDesc, func(k known, at api.Ref, held []api.Ref) known {
			b := leafBytes(k.p, held)
			b[6*len(held)]++
			return k.lost(at.Row).whole(at.Row, 0, 1, at.Version, b)
		}},
		{"with a last byte", api.ErrDesc, func(k known, at api.Ref, held []api.Ref) known {
			b := leafBytes(k.p, held)
			b[len(b)-1] = 1
			return k.lost(at.Row).whole(at.Row, 0, 1, at.Version, b)
		}},
	}
}

// leafy is parameters with a row for each leaf and one more, an image with an object in the row 3 that has leaves, the last one with one ref.
func leafy(p api.Params) (known, object) {
	p.Rows = max(p.Rows, 24)
	m := measured(p)
	return blank(p).built(3, 5, (m.direct-1)*m.leaf*m.width+1, 9)
}

// heldBy are the refs that a leaf of an object holds.
func (k known) heldBy(o object, i int) []api.Ref {
	room := measured(k.p).leaf
	return o.stripes[i*room : min(len(o.stripes), (i+1)*room)]
}

// A leaf that is wrong in any way, the first one, the last one or one in the midst.
func TestP17_1WrongLeaves(t *testing.T) {
	t.Parallel()
	for _, p := range deep() {
		k, o := leafy(p)
		tells(t, k.image(), 3, o)
		for i, at := range o.leaves {
			ways := append(gone(), noRefs()...)
			if 6*(len(k.heldBy(o, i))+1) <= measured(p).width {
				ways = append(ways, behindRefs()...)
			}
			for _, way := range ways {
				if at.Row == k.p.Rows-1 {
					t.Fatalf("%v: a leaf in the last row", k.p)
				}
				wrong := way.make(k, at, k.heldBy(o, i))
				if a := asked(wrong.image(), 3); !a.refused(way.err) {
					t.Fatalf("%v: with the leaf %d of %d %s it tells\n%s", k.p, i, len(o.leaves), way.what, a.told())
				}
				check(t, wrong, 3)
			}
		}
	}
}

// Where the last leaf is full, bytes behind its refs are told too, if the width leaves some.
func TestP17_1BytesBehindAFullLeaf(t *testing.T) {
	found := false
	for _, p := range deep() {
		k, o := leafy(p)
		m := measured(p)
		if m.leaf*6 == m.width {
			continue
		}
		for i := range len(o.leaves) - 1 {
			for place := m.leaf * 6; place < m.width; place++ {
				b := leafBytes(k.p, k.heldBy(o, i))
				b[place] = 128
				refuses(t, k.whole(o.leaves[i].Row, 0, 1, o.leaves[i].Version, b).image(), 3, api.ErrDesc)
				found = true
			}
		}
	}
	if !found {
		t.Fatal("no parameters leave bytes behind a full leaf")
	}
}

// Of two leaves that are wrong the first one is told; of one, that it can not be read, ahead of what its bytes are.
func TestP17_1TwoWrongLeaves(t *testing.T) {
	t.Parallel()
	for _, p := range deep() {
		k, o := leafy(p)
		ways := append(gone(), noRefs()...)
		for first := range o.leaves {
			for second := first + 1; second < len(o.leaves); second++ {
				for i, a := range ways {
					b := ways[(i+first+second+1)%len(ways)]
					wrong := a.make(k, o.leaves[first], k.heldBy(o, first))
					wrong = b.make(wrong, o.leaves[second], k.heldBy(o, second))
					if got := asked(wrong.image(), 3); !got.refused(a.err) {
						t.Fatalf("%v: with the leaf %d %s and %d %s it tells\n%s", k.p, first, a.what, second, b.what, got.told())
					}
				}
			}
		}
	}
}

// A descriptor that is wrong is told ahead of its leaves; an image and a row number ahead of both.
func TestP17_1TheDescriptorFirst(t *testing.T) {
	for _, p := range deep() {
		k, o := leafy(p)
		for i, at := range o.leaves {
			noLeaf := k.lost(at.Row)
			refuses(t, noLeaf.image(), 3, api.ErrLost)
			data := descBytes(k.p, o.d)
			data[len(data)-1]++
			refuses(t, noLeaf.whole(3, 0, 2, 5, data).image(), 3, api.ErrDesc)
			wrongLeaf := k.whole(at.Row, 0, 1, at.Version, make([]byte, measured(p).width))
			refuses(t, wrongLeaf.image(), 3, api.ErrDesc)
			refuses(t, wrongLeaf.lost(3).image(), 3, api.ErrLost)
			refuses(t, wrongLeaf.image(), k.p.Rows, api.ErrParams)
			m := wrongLeaf.image()
			m.Slots[len(m.Slots)-1-i] = []byte{1}
			refuses(t, m, 3, api.ErrImage)
			refuses(t, m, -1, api.ErrImage)
			m.P.K = 13
			refuses(t, m, -1, api.ErrParams)
		}
	}
}

// A leaf that a slot ahead of the others tells with another vector can't be read.
func TestP17_1LeafThatCanNotBeRead(t *testing.T) {
	for _, p := range deep() {
		if p.R == 0 || p.K == 1 {
			continue // the first drive is needed then, or one cell is enough
		}
		k, o := leafy(p)
		for i, at := range o.leaves {
			v := with(same(k.p, at.Version-1), at.Version, 0)
			wrong := k.having(at.Row, 0, 1, v, leafBytes(k.p, k.heldBy(o, i)), 0)
			refuses(t, wrong.image(), 3, api.ErrLost)
			check(t, wrong, 3)
		}
	}
}

// Slots that are nearly cells of a descriptor or of a leaf are none.
func TestP17_1NoSlots(t *testing.T) {
	p := api.Params{K: 3, R: 2, Cell: 11, Rows: 24}
	stripes := refsOf(p, 6, 3)
	leaves := []api.Ref{{Row: 6, Version: 5}, {Row: 7, Version: 5}}
	o := object{d: api.Desc{Length: 33 * 6, Depth: 1, Refs: leaves}, version: 5, leaves: leaves, stripes: stripes}
	right := blank(p).whole(3, 0, 2, 5, descBytes(p, o.d)).whole(6, 0, 1, 5, leafBytes(p, stripes[:5])).whole(7, 0, 1, 5, leafBytes(p, stripes[5:]))
	tells(t, right.image(), 3, o)
	for row, kind := range map[int]uint8{3: 2, 6: 1, 7: 1} {
		for i := range noSlots(p, kind, 0) {
			k := right
			for drive := range p.K + p.R {
				k = k.changed(row, func(r line) { r[drive][0] = noSlots(p, kind, drive)[i] })
				if drive < p.R {
					tells(t, k.image(), 3, o)
				} else {
					refuses(t, k.image(), 3, api.ErrLost)
				}
			}
		}
	}
}

// What is handed in and wrong is not changed either.
func TestP17_3WrongInputsAreOnlyRead(t *testing.T) {
	for _, p := range few() {
		if p.Rows > 20 {
			continue // the images are great
		}
		k, _ := rightImage(p)
		for _, m := range wrongImages(p, k.image()) {
			was := make([][]byte, len(m.Slots))
			for i := range m.Slots {
				was[i] = bytes.Clone(m.Slots[i])
			}
			asked(m, 3)
			asked(m, -1)
			if !slices.EqualFunc(m.Slots, was, bytes.Equal) {
				t.Fatalf("%v: a call changes an image that may not be", p)
			}
		}
	}
}
