package object

import (
	"bytes"
	"slices"
	"testing"

	"twoslot/api"
)

// rising are the bytes from one on.
func rising(many int) []byte {
	made := make([]byte, many)
	for i := range made {
		made[i] = byte(i + 1)
	}
	return made
}

// example is the image of the document's table: an object of the bytes 1 to 40 in the row 3.
func example() known {
	p := exampleP()
	last := append(rising(40)[32:], make([]byte, 24)...)
	k := blank(p).whole(4, 0, 1, 5, rising(32)).whole(7, 0, 1, 5, last)
	return k.whole(3, 0, 2, 6, descBytes(p, api.Desc{Length: 40, Refs: []api.Ref{{Row: 4, Version: 5}, {Row: 7, Version: 5}}}))
}

func TestP18_1Examples(t *testing.T) {
	m := example().image()
	if length, err := Length(m, 3); length != 40 || err != api.OK {
		t.Fatalf("Length is %d, %d", length, err)
	}
	if length, err := Length(m, 2); length != 0 || err != api.ErrLost {
		t.Fatalf("Length of a row without an object is %d, %d", length, err)
	}
	if length, err := Length(m, 16); length != 0 || err != api.ErrParams {
		t.Fatalf("Length of no row is %d, %d", length, err)
	}
}

func TestP18_2Examples(t *testing.T) {
	m := example().image()
	if b, err := Bytes(m, 3); !bytes.Equal(b, rising(40)) || err != api.OK {
		t.Fatalf("Bytes are %v, %d", b, err)
	}
	for _, its := range []struct {
		off, n int
		want   []byte
		err    api.Errno
	}{
		{30, 4, []byte{31, 32, 33, 34}, api.OK},
		{38, 9, []byte{39, 40}, api.OK},
		{40, 1, nil, api.OK},
		{99, 0, nil, api.OK},
		{-1, 1, nil, api.ErrParams},
		{0, 32769, nil, api.ErrTooBig},
	} {
		if b, err := Part(m, 3, its.off, its.n); !bytes.Equal(b, its.want) || err != its.err {
			t.Fatalf("the part %d, %d is %v, %d", its.off, its.n, b, err)
		}
	}
}

// An object of two leaves, of which the last one has two refs, told by hand.
func TestP18_2LeavesByHand(t *testing.T) {
	p, all := exampleP(), some(200, 5)
	k := blank(p)
	stripes := []api.Ref{{Row: 9, Version: 4}, {Row: 8, Version: 3}, {Row: 9, Version: 2}, {Row: 0, Version: 1}, {Row: 1, Version: most}, {Row: 15, Version: 7}, {Row: 2, Version: 7}}
	for i, at := range stripes {
		data := make([]byte, 32)
		copy(data, all[32*i:])
		k = k.whole(at.Row, i%3/2, 1, at.Version, data)
	}
	k = k.whole(12, 1, 1, 6, leafBytes(p, stripes[:5])).whole(5, 0, 1, 8, leafBytes(p, stripes[5:]))
	k = k.whole(3, 1, 2, 9, descBytes(p, api.Desc{Length: 200, Depth: 1, Refs: []api.Ref{{Row: 12, Version: 6}, {Row: 5, Version: 8}}}))
	hasBytes(t, k.image(), 3, all, partsOf(p, 200))
}

// All parts of objects of few bytes, also such as end behind them, and such as are too great.
func TestP18_2EveryPart(t *testing.T) {
	t.Parallel()
	p := exampleP()
	for _, length := range []int{0, 1, 31, 32, 33, 40, 64, 65, 70} {
		k, o := blank(p).built(2, 5, length, length)
		m := k.image()
		for off := range 75 {
			for n := range 75 {
				want := o.bytes[min(off, length):min(off+n, length)]
				if b, err := Part(m, 2, off, n); !bytes.Equal(b, want) || err != api.OK {
					t.Fatalf("of %d bytes the part %d, %d is %v, %d, want %v", length, off, n, b, err, want)
				}
			}
		}
	}
}

// Objects of the lengths at the edges, in the rows at the edges; parts between all edges.
func TestP18_2Edges(t *testing.T) {
	t.Parallel()
	for _, p := range few() {
		for i, length := range lengths(p) {
			for _, row := range []int{0, p.Rows / 2, p.Rows - 1} {
				k, o := blank(p).built(row, []int{1, 5, most}[i%3], length, i+row)
				parts := someParts(p, length)
				if row == i%2*(p.Rows-1) && (p.K < 4 || i%3 == 0) { // the others are the same, but slow
					parts = partsOf(p, length)
				}
				hasBytes(t, k.image(), row, o.bytes, parts)
				refuses(t, k.image(), p.Rows, api.ErrParams)
			}
		}
	}
}

// What the document's sentences make of the same images, byte by byte.
func TestP18_2EdgesBySentences(t *testing.T) {
	t.Parallel()
	for _, p := range few() {
		for i, length := range lengths(p) {
			k, _ := blank(p).built(p.Rows-1, 5, length, i)
			check(t, k, p.Rows-1, someParts(p, length))
		}
	}
}

// With many rows each stripe has a place of its own: of an object of Most each byte can be told from the others.
func TestP18_2EachStripeOnce(t *testing.T) {
	t.Parallel()
	found := 0
	for _, p := range few() {
		k, o := blank(p).built(1, 5, measured(p).most, 3)
		if len(slices.CompactFunc(slices.Clone(o.stripes), func(a, b api.Ref) bool { return a == b })) != len(o.stripes) {
			t.Fatalf("%v: refs side by side are alike", p)
		}
		if 2*(p.Rows-1) >= len(o.leaves)+len(o.stripes) {
			found += len(o.leaves)
			hasBytes(t, k.image(), 1, o.bytes, partsOf(p, len(o.bytes)))
		}
	}
	if found == 0 {
		t.Fatal("none of these objects has leaves")
	}
}

func TestP18_1EveryRow(t *testing.T) {
	t.Parallel()
	for _, p := range few() {
		k, o := blank(p).built(p.Rows/2, 6, measured(p).width+1, 3)
		for row := range p.Rows {
			if row == p.Rows/2 {
				tells(t, k.image(), row, o)
			} else {
				refuses(t, k.image(), row, api.ErrLost)
			}
		}
	}
}

func TestP18_2EveryParams(t *testing.T) {
	t.Parallel()
	every(func(p api.Params) {
		m := measured(p)
		p.Rows = min(p.Rows, 64) // great images are the same, but slow
		length := min(m.most, m.direct*m.width+p.Cell+1)
		k, o := blank(p).built(p.Rows-1, 6, length, p.Cell)
		hasBytes(t, k.image(), p.Rows-1, o.bytes, []part{{m.width - 1, m.width + 2}, {length - 1, 1}, {0, m.most}})
		if b, err := Part(k.image(), p.Rows-1, 1, m.most); b != nil || err != api.ErrTooBig {
			t.Fatalf("%v: a part beyond Most is %v, %d", p, b, err)
		}
	})
}

// Every number of stripes, with a last leaf that is full, or has one ref, or some.
func TestP18_2EveryNumberOfStripes(t *testing.T) {
	t.Parallel()
	for _, p := range few() {
		m := measured(p)
		if m.width > 40 {
			continue // they have many more, which are the same
		}
		for stripes := 1; stripes*m.width <= m.most; stripes++ {
			for _, more := range []int{-m.width + 1, -1, 0} {
				k, o := blank(p).built(1, 7, stripes*m.width+more, stripes)
				hasBytes(t, k.image(), 1, o.bytes, partsOf(p, len(o.bytes)))
			}
		}
	}
}

// Refs may name one row twice, in one version or in two: its bytes are told twice.
func TestP18_2OneRowTwice(t *testing.T) {
	t.Parallel()
	for _, p := range few() {
		m := measured(p)
		for _, length := range lengths(p) {
			many := needed(length, m.width)
			old, now := some(m.width, 3), some(m.width, 4)
			for _, row := range []int{0, p.Rows - 1} {
				k := blank(p).whole(row, 0, 1, 5, old).whole(row, 1, 1, most, now)
				for _, of := range []struct {
					refs []api.Ref
					data []byte
				}{
					{[]api.Ref{{Row: row, Version: 5}}, old},
					{[]api.Ref{{Row: row, Version: most}}, now},
					{[]api.Ref{{Row: row, Version: most}, {Row: row, Version: 5}}, slices.Concat(now, old)},
					{[]api.Ref{{Row: row, Version: 5}, {Row: row, Version: 5}, {Row: row, Version: most}}, slices.Concat(old, old, now)},
				} {
					depth, leaves := shaped(p, length)
					if depth == 1 && leaves > 2*(p.Rows-2) {
						continue // no room for the leaves beside that row
					}
					all := bytes.Repeat(of.data, many+1)[:length]
					l := k.madeOf(p.Rows/2, 6, length, slices.Repeat(of.refs, many)[:many], row)
					hasBytes(t, l.image(), p.Rows/2, all, someParts(p, length))
				}
			}
		}
	}
}

// madeOf is the image with an object of these stripes, whose leaves stand in any rows but one.
func (k known) madeOf(row, version, length int, stripes []api.Ref, but int) known {
	depth, many := shaped(k.p, length)
	d := api.Desc{Length: length, Depth: depth, Refs: stripes}
	if depth == 1 {
		d.Refs = nil
		for i := 0; len(d.Refs) < many; i++ {
			at, number := placeAt(k.p, row, i)
			if at.Row == but {
				continue
			}
			from, room := len(d.Refs)*measured(k.p).leaf, measured(k.p).leaf
			k = k.whole(at.Row, number, 1, at.Version, leafBytes(k.p, stripes[from:min(len(stripes), from+room)]))
			d.Refs = append(d.Refs, at)
		}
	}
	return k.whole(row, 0, 2, version, descBytes(k.p, d))
}

// A stripe may stand in the row of the descriptor, beside it, with its version or with another.
func TestP18_2StripeInTheDescriptorsRow(t *testing.T) {
	for _, p := range few() {
		width := measured(p).width
		for number := range 2 {
			for _, version := range []int{5, 4, 9} {
				data := some(width, version)
				d := api.Desc{Length: width - 1, Refs: []api.Ref{{Row: 3, Version: version}}}
				k := blank(p).whole(3, number, 2, 5, descBytes(p, d)).whole(3, 1-number, 1, version, data)
				hasBytes(t, k.image(), 3, data[:width-1], someParts(p, width-1))
			}
		}
	}
}

// A ref may name a leaf, the object's own or another's: its bytes are told then, as they are.
func TestP18_2LeafAsStripe(t *testing.T) {
	for _, p := range deep() {
		m := measured(p)
		held := refsOf(p, m.direct+1, 4)
		at, _ := placeAt(p, 3, 0)
		for i := range held {
			held[i] = at
		}
		k := blank(p).madeOf(3, 5, (m.direct+1)*m.width, held, 3)
		own := leafBytes(p, held[:min(len(held), m.leaf)])
		hasBytes(t, k.image(), 3, bytes.Repeat(own, m.direct+1), someParts(p, (m.direct+1)*m.width))
	}
}

// A stripe of KindDesc is none of KindData: it is not read, be it of the version that a ref names.
func TestP18_2DescriptorAsStripe(t *testing.T) {
	for _, p := range few() {
		d := api.Desc{Length: 9, Refs: []api.Ref{{Row: 3, Version: 5}}}
		k := blank(p).whole(3, 0, 2, 5, descBytes(p, d))
		if length, err := Length(k.image(), 3); length != 9 || err != api.OK {
			t.Fatalf("%v: Length is %d, %d", p, length, err)
		}
		if b, err := Bytes(k.image(), 3); b != nil || err != api.ErrLost {
			t.Fatalf("%v: Bytes are %v, %d", p, b, err)
		}
		if b, err := Part(k.image(), 3, 8, 1); b != nil || err != api.ErrLost {
			t.Fatalf("%v: the last byte is %v, %d", p, b, err)
		}
	}
}

// Bytes that stand in the last stripe behind the length are not told, whatever they are.
func TestP18_2BytesBehindTheLength(t *testing.T) {
	for _, p := range few() {
		m := measured(p)
		for _, length := range []int{1, p.Cell, m.width - 1, m.width, m.width + 1, 2*m.width - 1} {
			data := filled(2*m.width, 200)
			copy(data, some(length, 6))
			k := blank(p).whole(5, 0, 1, 4, data[:m.width]).whole(6, 1, 1, 3, data[m.width:])
			refs := []api.Ref{{Row: 5, Version: 4}, {Row: 6, Version: 3}}[:needed(length, m.width)]
			k = k.whole(7, 0, 2, 5, descBytes(p, api.Desc{Length: length, Refs: refs}))
			hasBytes(t, k.image(), 7, data[:length], partsOf(p, length))
		}
	}
}

// The object that counts is told: not one that was begun, nor the one ahead of it, be they in which slots they will.
func TestP18_1TheWinner(t *testing.T) {
	for _, p := range few() {
		n, m := p.K+p.R, measured(p)
		p.Rows = min(p.Rows, 24)
		for number := range 2 {
			for _, length := range []int{0, m.width, m.most} {
				k, o := blank(p).built(2, 6, length, 5)
				data := descBytes(p, o.d)
				at, _ := placeAt(p, 2, 3)
				theirs := k.rows[at.Row].data(p, 1, at.Version)
				if theirs == nil {
					theirs = some(m.width, 9)
					k = k.whole(at.Row, 0, 1, at.Version, theirs)
				}
				others := descBytes(p, api.Desc{Length: 1, Refs: []api.Ref{at}})
				begun := k.lost(2).whole(2, number, 2, 6, data).having(2, 1-number, 2, same(p, 8), others, upTo(0, p.K-1)...)
				tells(t, begun.image(), 2, o)
				ahead := k.lost(2).whole(2, number, 2, 6, data).whole(2, 1-number, 2, 4, others)
				tells(t, ahead.image(), 2, o)
				just := k.lost(2).having(2, number, 2, same(p, 6), data, upTo(n-p.K, n)...).whole(2, 1-number, 2, 4, others)
				tells(t, just.image(), 2, o)
				next := k.lost(2).whole(2, number, 2, 6, data).having(2, 1-number, 2, same(p, 8), others, upTo(n-p.K, n)...)
				hasBytes(t, next.image(), 2, theirs[:1], someParts(p, 1))
			}
		}
	}
}

// renewedStripe is the image in which some data cells of a stripe were changed, by an update; and the object that it makes, with a new descriptor.
func (k known) renewedStripe(o object, row, i, version int, cells ...int) (begun, done known, now object) {
	p, at, m := k.p, o.stripes[i], measured(k.p)
	data := k.rows[at.Row].data(p, 1, at.Version)
	for _, cell := range cells {
		copy(data[cell*p.Cell:], some(p.Cell, version+cell))
	}
	changed := append(slices.Clone(cells), upTo(p.K, p.K+p.R)...)
	begun = k.having(at.Row, 1, 1, with(same(p, at.Version), version, changed...), data, changed...)
	now = object{version: version, stripes: slices.Clone(o.stripes), bytes: slices.Clone(o.bytes)}
	now.stripes[i].Version = version
	now.d = api.Desc{Length: o.d.Length, Refs: now.stripes}
	copy(now.bytes[i*m.width:], data)
	return begun, begun.whole(row, 1, 2, version, descBytes(p, now.d)), now
}

// A stripe whose cells have several versions is read by the vector of the version that the descriptor names; the old one still is, too.
func TestP18_2RenewedStripes(t *testing.T) {
	t.Parallel()
	for _, p := range few() {
		m := measured(p)
		p.Rows = max(p.Rows, 20)
		length := min(4, m.direct) * m.width
		k, o := blank(p).built(0, 5, length, 6)
		for i := range o.stripes {
			for cell := range p.K {
				if o.stripes[i].Version > 1000 {
					continue // so that 1005 is above it
				}
				for _, cells := range [][]int{{cell}, upTo(0, cell+1), upTo(cell, p.K)} {
					begun, done, now := k.renewedStripe(o, 0, i, 1005, cells...)
					tells(t, begun.image(), 0, o)
					tells(t, done.image(), 0, now)
					check(t, done, 0, someParts(p, length))
				}
			}
		}
	}
}

// Two objects of one image, whose rows stand between one another, are told apart.
func TestP18_2TwoObjects(t *testing.T) {
	for _, p := range few() {
		m := measured(p)
		data := some(4*m.width, 8)
		k := blank(p)
		for i, row := range []int{7, 4, 6, 5} {
			k = k.whole(row, i%2, 1, 3+i, data[i*m.width:(i+1)*m.width])
		}
		k = k.whole(0, 0, 2, 9, descBytes(p, api.Desc{Length: 2 * m.width, Refs: []api.Ref{{Row: 7, Version: 3}, {Row: 6, Version: 5}}}))
		k = k.whole(1, 1, 2, 8, descBytes(p, api.Desc{Length: 2*m.width - 1, Refs: []api.Ref{{Row: 4, Version: 4}, {Row: 5, Version: 6}}}))
		hasBytes(t, k.image(), 0, slices.Concat(data[:m.width], data[2*m.width:3*m.width]), partsOf(p, 2*m.width))
		hasBytes(t, k.image(), 1, slices.Concat(data[m.width:2*m.width], data[3*m.width:])[:2*m.width-1], partsOf(p, 2*m.width-1))
	}
}

func TestP18_2MixedImages(t *testing.T) {
	t.Parallel()
	ends, parts, depths := map[api.Errno]int{}, map[api.Errno]int{}, map[int]int{}
	mixedImages(70, func(k known) {
		for row := range 4 {
			w := k.wants(row)
			asked := someParts(k.p, w.length)
			check(t, k, row, asked)
			_, err := w.part(0, w.length)
			ends[err]++
			if err == api.OK {
				d, _ := k.wantDesc(row)
				depths[d.Depth]++
			}
			for _, of := range asked {
				if _, one := w.part(of.off, max(1, of.n)); err == api.ErrLost && w.noRef == api.OK {
					parts[one]++ // of objects with a stripe that is lost
				}
			}
		}
	})
	if ends[api.OK] < 200 || ends[api.ErrLost] < 200 || ends[api.ErrDesc] < 100 || depths[0] < 100 || depths[1] < 100 || parts[api.OK] < 200 || parts[api.ErrLost] < 200 { // else the images above would tell little
		t.Fatalf("Bytes end in %v, %v, Part in %v", ends, depths, parts)
	}
}
