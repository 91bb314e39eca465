package object

import (
	"bytes"
	"slices"
	"testing"

	"twoslot/api"
	"twoslot/commit"
	"twoslot/desc"
	"twoslot/image"
	"twoslot/stripe"
	"twoslot/update"
)

// agrees holds the calls of a row against one another: Bytes has Length bytes, Part is a part of Bytes.
func agrees(t *testing.T, m api.Image, row int, parts []part) {
	t.Helper()
	length, err1 := Length(m, row)
	all, err2 := Bytes(m, row)
	if err1 != api.OK || err2 != api.OK || len(all) != length {
		t.Fatalf("%v: Length is %d, %d, Bytes are %d bytes, %d", m.P, length, err1, len(all), err2)
	}
	for _, of := range parts {
		if b, err := Part(m, row, of.off, of.n); !bytes.Equal(b, cut(all, of)) || err != api.OK {
			t.Fatalf("%v: the part %v of %d bytes is %v, %d, want %v", m.P, of, length, b, err, cut(all, of))
		}
	}
}

func TestP18_4PartsOfBytes(t *testing.T) {
	t.Parallel()
	for _, p := range few() {
		p.Rows = min(p.Rows, 24)
		for i, length := range lengths(p) {
			k, _ := blank(p).built(2, 5, length, i)
			agrees(t, k.image(), 2, someParts(p, length))
		}
	}
}

// Bytes are as many as Length tells, of every length.
func TestP18_4EveryLength(t *testing.T) {
	t.Parallel()
	for _, p := range []api.Params{exampleP(), {K: 1, R: 0, Cell: 32, Rows: 8}, {K: 3, R: 2, Cell: 11, Rows: 13}} {
		for length := range measured(p).most + 1 {
			k, o := blank(p).built(2, 5, length, length)
			hasBytes(t, k.image(), 2, o.bytes, []part{{length / 2, length - length/2}, {0, length / 2}})
		}
	}
}

// Whatever an image holds: where Bytes tells something, the others agree with it.
func TestP18_4MixedImages(t *testing.T) {
	t.Parallel()
	found := 0
	mixedImages(20, func(k known) {
		for row := range 4 {
			if b, err := Bytes(k.image(), row); err == api.OK {
				agrees(t, k.image(), row, someParts(k.p, len(b)))
				found++
			}
		}
	})
	if found < 50 {
		t.Fatalf("Bytes tells something %d times", found)
	}
}

// joins tells that two parts that go on from one another are the part of both.
func joins(t *testing.T, m api.Image, row, from, between, to int) {
	t.Helper()
	a, err1 := Part(m, row, from, between-from)
	b, err2 := Part(m, row, between, to-between)
	both, err3 := Part(m, row, from, to-from)
	if err1 != api.OK || err2 != api.OK || err3 != api.OK || !bytes.Equal(slices.Concat(a, b), both) {
		t.Fatalf("%v: the part from %d to %d, cut at %d, is %v and %v, in one %v; %d, %d, %d", m.P, from, to, between, a, b, both, err1, err2, err3)
	}
}

func TestP18_4TwoPartsAreThePartOfBoth(t *testing.T) {
	t.Parallel()
	for _, p := range few() {
		p.Rows = min(p.Rows, 24)
		throw := dice(p.K + p.Cell)
		for i, length := range shallowAndDeep(p) {
			k, _ := blank(p).built(1, 5, length, i)
			m, at := k.image(), edges(p, length)
			for range 60 {
				three := []int{one(&throw, at), one(&throw, at), one(&throw, at)}
				slices.Sort(three)
				joins(t, m, 1, three[0], three[1], three[2])
			}
		}
	}
}

func TestP18_4EveryCutOfASmallObject(t *testing.T) {
	m := example().image()
	for from := range 45 {
		for to := from; to < 45; to++ {
			for between := from; between <= to; between += 3 {
				joins(t, m, 3, from, between, to)
			}
		}
	}
}

// Byte by byte the parts come to all bytes.
func TestP18_4ByteByByte(t *testing.T) {
	t.Parallel()
	for _, p := range few() {
		if p.Rows > 24 {
			p.Rows = 24
		}
		m := measured(p)
		k, o := blank(p).built(1, 5, min(m.most, 3*m.width+5), 4)
		var all []byte
		for at := range len(o.bytes) + 3 {
			b, err := Part(k.image(), 1, at, 1)
			if err != api.OK {
				t.Fatalf("%v: the byte %d is refused, %d", p, at, err)
			}
			all = append(all, b...)
		}
		if !bytes.Equal(all, o.bytes) {
			t.Fatalf("%v: byte by byte it is %v, want %v", p, all, o.bytes)
		}
	}
}

// wiped is an image in which all slots of some drives are blank.
func wiped(m api.Image, drives ...int) api.Image {
	made := api.Image{P: m.P, Slots: slices.Clone(m.Slots)}
	for _, drive := range drives {
		clear(made.Slots[2*drive*m.P.Rows : 2*(drive+1)*m.P.Rows])
	}
	return made
}

// tellsThroughWipes tells that no choice of at most R wiped drives changes anything.
func tellsThroughWipes(t *testing.T, k known, row int, o object) {
	t.Helper()
	m, top := k.image(), measured(k.p).most
	length := len(o.bytes)
	parts := []part{{length / 3, min(length/3, top)}, {0, top}}
	if k.p.K+k.p.R > 12 {
		parts = parts[:1] // the choices of 4 of 16 are many
	}
	wipes(k.p, func(drives []int) {
		hasBytes(t, wiped(m, drives...), row, o.bytes, parts)
	})
}

func TestP18_4Wiped(t *testing.T) {
	t.Parallel()
	for _, p := range few() {
		m := measured(p)
		if p.K+p.R > 12 {
			p.Rows = min(p.Rows, 20)
			k, o := blank(p).built(p.Rows-1, 5, m.width+1, 3) // the choices of 4 of 16 are many
			tellsThroughWipes(t, k, p.Rows-1, o)
			continue
		}
		for i, length := range shallowAndDeep(p) {
			for _, row := range []int{0, p.Rows - 1} {
				k, o := blank(p).built(row, 5, length, i)
				tellsThroughWipes(t, k, row, o)
			}
		}
	}
}

// Objects with many stripes and leaves, of many drives: each drive alone, and R of them side by side.
func TestP18_4WipedGreat(t *testing.T) {
	t.Parallel()
	for _, p := range few() {
		n := p.K + p.R
		k, o := blank(p).built(p.Rows-1, most, measured(p).most, 7)
		m := k.image()
		for first := range n {
			var drives []int
			for i := range p.R {
				drives = append(drives, (first+i)%n)
			}
			hasBytes(t, wiped(m, drives...), p.Rows-1, o.bytes, []part{{5, measured(p).width}})
			hasBytes(t, wiped(m, drives[:p.R/2]...), p.Rows-1, o.bytes, nil)
		}
	}
}

// A stripe that was updated has cells of several versions: also then no R wiped drives take anything away, from the old object and from the new one.
func TestP18_4WipedRenewedStripe(t *testing.T) {
	t.Parallel()
	for _, p := range few() {
		m := measured(p)
		p.Rows = 20
		k, o := blank(p).built(0, 5, min(3, m.direct)*m.width, 6)
		if p.K+p.R > 12 {
			k, o = blank(p).built(0, 5, m.width-1, 6) // the choices of 4 of 16 are many
		}
		for i := range o.stripes {
			if o.stripes[i].Version > 1000 {
				continue // 1005 must be above it
			}
			begun, done, now := k.renewedStripe(o, 0, i, 1005, i%p.K)
			if p.K+p.R <= 12 {
				tellsThroughWipes(t, begun, 0, o)
			}
			tellsThroughWipes(t, done, 0, now)
		}
	}
}

// With more than R drives wiped too few cells are left: nothing is told, and nothing wrong.
func TestP18_4MoreWiped(t *testing.T) {
	for _, p := range few() {
		p.Rows = min(p.Rows, 20)
		n := p.K + p.R
		for i, length := range shallowAndDeep(p) {
			k, _ := blank(p).built(2, 5, length, i)
			m := k.image()
			for first := range n {
				var drives []int
				for next := range p.R + 1 {
					drives = append(drives, (first+next)%n)
				}
				refuses(t, wiped(m, drives...), 2, api.ErrLost)
			}
			refuses(t, wiped(m, upTo(0, n)...), 2, api.ErrLost)
		}
	}
}

// Where an update of a stripe was begun, and any drives were wiped, the object is told, or that it is lost: never a mixture.
func TestP18_4LostAndNeverWrong(t *testing.T) {
	for _, p := range few() {
		if p.K+p.R > 6 {
			continue // all choices of drives are asked
		}
		p.Rows = 20
		k, o := blank(p).built(0, 5, min(2, measured(p).direct)*measured(p).width, 6)
		begun, done, now := k.renewedStripe(o, 0, 0, 1005, 0)
		for _, its := range []struct {
			k known
			o object
		}{{begun, o}, {done, now}} {
			for many := range p.K + p.R + 1 {
				choices(p.K+p.R, many, func(drives []int) {
					b, err := Bytes(wiped(its.k.image(), drives...), 0)
					old := bytes.Equal(b, o.bytes) && len(drives) > p.R // the new descriptor is lost, what it was before is not
					if err == api.OK && !bytes.Equal(b, its.o.bytes) && !old || err != api.OK && (err != api.ErrLost || b != nil || len(drives) <= p.R) {
						t.Fatalf("%v: with %v wiped it tells %v, %d", p, drives, b, err)
					}
				})
			}
		}
	}
}

// put is an image behind raw writes.
func put(t *testing.T, m api.Image, l []api.Put, err api.Errno) api.Image {
	t.Helper()
	if err != api.OK {
		t.Fatalf("the raw writes are refused: %d", err)
	}
	m, err = image.After(m, l, len(l))
	if err != api.OK {
		t.Fatalf("After is refused: %d", err)
	}
	return m
}

// wrote is the image with a whole stripe in a row, of KindData.
func wrote(t *testing.T, m api.Image, at api.Ref, data []byte) api.Image {
	t.Helper()
	pairs, _ := image.Row(m, at.Row)
	l, err := stripe.Full(m.P, pairs, at.Row, api.KindData, 0, at.Version, data)
	return put(t, m, l, err)
}

// written is the image with an object of these bytes in the row 2, by the raw writes of the layers below: stripes first, then leaves, then the descriptor.
func written(t *testing.T, m api.Image, version int, b []byte) (api.Image, []api.Ref) {
	t.Helper()
	its := measured(m.P)
	var stripes, refs []api.Ref
	for i := range needed(len(b), its.width) {
		data := make([]byte, its.width)
		copy(data, b[i*its.width:])
		at := api.Ref{Row: 3 + i, Version: version}
		m = wrote(t, m, at, data)
		stripes = append(stripes, at)
	}
	depth, many := shaped(m.P, len(b))
	refs = stripes
	if depth == 1 {
		refs = nil
		for i := range many {
			data, err := desc.Leaf(m.P, stripes[i*its.leaf:min(len(stripes), (i+1)*its.leaf)])
			if err != api.OK {
				t.Fatalf("Leaf is refused: %d", err)
			}
			at := api.Ref{Row: 3 + len(stripes) + i, Version: version}
			m = wrote(t, m, at, data)
			refs = append(refs, at)
		}
	}
	pairs, _ := image.Row(m, 2)
	l, err := commit.Puts(m.P, pairs, 2, version, api.Desc{Length: len(b), Depth: depth, Refs: refs})
	return put(t, m, l, err), stripes
}

// Objects that the layers below wrote, one behind the other in the same rows, are told, also through wipes by image.
func TestP18_4ByTheLayersBelow(t *testing.T) {
	t.Parallel()
	for _, p := range few() {
		p.Rows = 40
		m, _ := image.Blank(p)
		for i, length := range shallowAndDeep(p) {
			if length/measured(p).width > 30 {
				continue // no room
			}
			b := some(length, i+1)
			m, _ = written(t, m, 5+i, b)
			now := m
			for turn := range p.R + 1 {
				hasBytes(t, now, 2, b, someParts(p, length))
				now, _ = image.Wiped(now, (5*turn+i)%(p.K+p.R))
			}
		}
	}
}

// Behind an update of some cells, by delta, and a new descriptor the new bytes are told; behind the update alone the old ones.
func TestP18_4BehindUpdates(t *testing.T) {
	t.Parallel()
	for _, p := range few() {
		p.Rows = 40
		width := measured(p).width
		length := min(3, measured(p).direct) * width
		b := some(length, 9)
		blanks, _ := image.Blank(p)
		m, stripes := written(t, blanks, 5, b)
		for turn := range 6 {
			version, i := 6+turn, turn%len(stripes)
			off := turn * width / 7
			now := some(width-off, turn+20)
			changes, err1 := update.Changes(p, b[i*width:(i+1)*width], off, now)
			pairs, _ := image.Row(m, stripes[i].Row)
			l, err2 := update.Plan(p, pairs, stripes[i].Row, stripes[i].Version, version, changes)
			if err1 != api.OK || err2 != api.OK {
				t.Fatalf("%v: the update is refused: %d, %d", p, err1, err2)
			}
			m = put(t, m, l, api.OK)
			hasBytes(t, m, 2, b, someParts(p, length))
			stripes[i].Version = version
			copy(b[i*width+off:], now)
			pairs, _ = image.Row(m, 2)
			l, err := commit.Puts(p, pairs, 2, version, api.Desc{Length: length, Refs: stripes})
			m = put(t, m, l, err)
			hasBytes(t, m, 2, b, someParts(p, length))
		}
	}
}
