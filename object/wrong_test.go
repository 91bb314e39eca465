package object

import (
	"bytes"
	"math"
	"slices"
	"testing"

	"twoslot/api"
)

// wrongNumbers are numbers of no row: beyond the ends, the greatest and the least of all, and such as are alike in their last bytes.
func wrongNumbers(p api.Params) []int {
	all := []int{-1, -2, p.Rows, p.Rows + 1, 257, 65536, -65536, -p.Rows, 1 << 31, -1 << 31, math.MinInt, math.MinInt + 1, math.MaxInt - 1, math.MaxInt}
	for _, right := range []int{0, 3, p.Rows - 1} {
		all = append(all, right+1<<32, right-1<<32, right+1<<33, right^math.MinInt, right|1<<62)
	}
	return all
}

// rightImage has an object of Most in the row 3; no call on it is refused.
func rightImage(p api.Params) (known, object) {
	return blank(p).built(3, 5, measured(p).most, 9)
}

// wrongImages have too few slots or too many, none, or a slot that may not be in a place.
func wrongImages(p api.Params, right api.Image) []api.Image {
	slots, size := right.Slots, sizeOf(p)
	var all []api.Image
	for _, l := range [][][]byte{nil, {}, slots[:len(slots)-1], slots[1:], slots[:len(slots)/2], append(slices.Clone(slots), nil), append(slices.Clone(slots), slots...), make([][]byte, len(slots)+2)} {
		all = append(all, api.Image{P: p, Slots: l})
	}
	for _, at := range []int{0, 1, 2 * 3, 2*3 + 1, len(slots) / 2, len(slots) - 2, len(slots) - 1} {
		for _, bad := range [][]byte{{0}, {84, 50}, filled(size-1, 84), filled(size+1, 84), filled(2*size, 0), make([]byte, 1<<16+size)} {
			l := slices.Clone(slots)
			l[at] = bad
			all = append(all, api.Image{P: p, Slots: l})
		}
	}
	return all
}

// wrongParts are parts that are refused, and the error: a number below 0 is told ahead of one that is too great.
func wrongParts(p api.Params) map[part]api.Errno {
	top := measured(p).most
	all := map[part]api.Errno{}
	great := []int{top + 1, 32769, 1 << 16, 1 << 31, 1 << 32, 1<<32 + 1, 1 << 62, math.MaxInt - 1, math.MaxInt}
	for _, below := range []int{-1, -2, -top, -1 << 31, -1 << 32, math.MinInt + 1, math.MinInt} {
		for _, other := range append(great, 0, 1, top, below, -1, math.MinInt) {
			all[part{below, other}] = api.ErrParams
			all[part{other, below}] = api.ErrParams
		}
	}
	for _, a := range great {
		for _, b := range append(great, 0, 1, top) {
			all[part{a, b}] = api.ErrTooBig
			all[part{b, a}] = api.ErrTooBig
		}
	}
	for _, a := range []int{1, 2, top / 2, top/2 + 1, top - 1, top} {
		all[part{a, top - a + 1}] = api.ErrTooBig
		all[part{top - a + 1, a}] = api.ErrTooBig
		all[part{a, top}] = api.ErrTooBig
		all[part{top, a}] = api.ErrTooBig
	}
	return all
}

// refusesPart tells that a part is refused, with no bytes.
func refusesPart(t *testing.T, m api.Image, row int, of part, err api.Errno) {
	t.Helper()
	if b, got := Part(m, row, of.off, of.n); b != nil || got != err {
		t.Fatalf("%v: the part %v of the row %d is %v, %d, want none and %d", m.P, of, row, b, got, err)
	}
}

// refusesAll tells that all calls are refused, also with parts that are wrong too.
func refusesAll(t *testing.T, m api.Image, row int, err api.Errno) {
	t.Helper()
	refuses(t, m, row, err)
	for _, of := range []part{{-1, 0}, {0, -1}, {0, 32769}, {32769, 0}, {math.MaxInt, math.MaxInt}, {math.MinInt, math.MinInt}, {math.MaxInt, math.MinInt}, {0, math.MaxInt}} {
		refusesPart(t, m, row, of, err)
	}
}

func TestP18_1NoImage(t *testing.T) {
	for _, row := range append(wrongNumbers(exampleP()), 0, 3, 15) {
		refusesAll(t, api.Image{}, row, api.ErrParams)
		refusesAll(t, api.Image{Slots: make([][]byte, 96)}, row, api.ErrParams)
		refusesAll(t, api.Image{P: exampleP()}, row, api.ErrImage)
	}
}

// Parameters are told ahead of all else, whatever else is wrong.
func TestP18_1WrongParams(t *testing.T) {
	right := example().image().Slots
	wrongParams(func(p api.Params) {
		for _, slots := range [][][]byte{right, nil, right[:5], make([][]byte, 48), {{1}}} {
			for _, row := range []int{0, 3, -1, p.Rows, math.MinInt, math.MaxInt} {
				refusesAll(t, api.Image{P: p, Slots: slots}, row, api.ErrParams)
			}
		}
	})
}

// An image that may not be is told ahead of rows that are not there, of parts that may not be, and of rows without a winner.
func TestP18_1WrongImages(t *testing.T) {
	t.Parallel()
	for _, p := range few() {
		k, o := rightImage(p)
		tells(t, k.image(), 3, o)
		for _, m := range wrongImages(p, k.image()) {
			for _, row := range []int{3, 0, p.Rows - 1, -1, p.Rows, math.MinInt, math.MaxInt} {
				refusesAll(t, m, row, api.ErrImage)
			}
		}
	}
}

func TestP18_1ImagesOfOtherParams(t *testing.T) {
	for _, p := range few() {
		for _, q := range few() {
			k, _ := rightImage(q)
			if (p.K+p.R)*p.Rows != (q.K+q.R)*q.Rows || sizeOf(p) != sizeOf(q) {
				refusesAll(t, api.Image{P: p, Slots: k.image().Slots}, 3, api.ErrImage)
			}
		}
	}
}

// A row that is not there is told ahead of a part that is too great.
func TestP18_1WrongNumbers(t *testing.T) {
	t.Parallel()
	for _, p := range few() {
		k, _ := rightImage(p)
		for _, row := range wrongNumbers(p) {
			if row >= 0 && row < p.Rows {
				continue // the parameters have it so
			}
			refusesAll(t, k.image(), row, api.ErrParams)
			refusesAll(t, blank(p).image(), row, api.ErrParams)
		}
	}
}

// Parts that may not be are told ahead of what the row holds: no winner, no descriptor, no leaf, no stripe.
func TestP18_2WrongParts(t *testing.T) {
	t.Parallel()
	for _, p := range few() {
		p.Rows = min(p.Rows, 24) // great images are the same, but slow
		right, o := rightImage(p)
		short, _ := blank(p).built(3, 5, 9, 9)
		width := measured(p).width
		all := []known{right, short, blank(p), right.whole(3, 0, 2, 5, filled(width, 1)), short.lost(4)}
		for _, at := range o.leaves {
			all = append(all, right.lost(at.Row), right.whole(at.Row, 0, 1, at.Version, filled(width, 255)))
		}
		for _, k := range all {
			m := k.image()
			for of, err := range wrongParts(p) {
				refusesPart(t, m, 3, of, err)
			}
		}
	}
}

// Parts that end just at Most are told, be the object shorter.
func TestP18_2PartsUpToMost(t *testing.T) {
	t.Parallel()
	for _, p := range few() {
		p.Rows = min(p.Rows, 24)
		top := measured(p).most
		for i, length := range []int{0, 1, measured(p).width + 1, top} {
			k, o := blank(p).built(0, 5, length, i)
			var parts []part
			for _, off := range []int{0, 1, length / 2, length, min(top, length+1), top / 2, top - 1, top} {
				parts = append(parts, part{off, top - off}, part{off, 0}, part{off, max(0, top-off-1)})
			}
			hasBytes(t, k.image(), 0, o.bytes, parts)
		}
	}
}

// Without a winner nothing is told, be there versions that too few drives hold, slots of KindData, or vectors of several versions.
func TestP18_1NoWinner(t *testing.T) {
	for _, p := range few() {
		n := p.K + p.R
		data := descBytes(p, api.Desc{})
		all := []known{
			blank(p),
			blank(p).having(3, 0, 2, same(p, 5), data, upTo(0, p.K-1)...),
			blank(p).having(3, 1, 2, same(p, most), data, upTo(n-p.K+1, n)...),
			blank(p).whole(3, 0, 1, 5, data),
			blank(p).whole(3, 0, 1, 5, data).having(3, 1, 2, same(p, 5), data, upTo(0, p.K-1)...),
			blank(p).whole(2, 0, 2, 5, data),
			blank(p).whole(4, 1, 2, 5, data),
		}
		if n > 1 {
			all = append(all, blank(p).having(3, 0, 2, with(same(p, 5), 4, n-1), data, upTo(0, n)...))
		}
		for _, k := range all {
			refuses(t, k.image(), 3, api.ErrLost)
			check(t, k, 3, someParts(p, 0))
		}
	}
}

// A slot ahead of the others that tells the winner with another vector makes that too few of its cells can be read.
func TestP18_1WinnerThatCanNotBeRead(t *testing.T) {
	found := false
	for _, p := range few() {
		n := p.K + p.R
		if p.R == 0 || p.K == 1 {
			continue // the first drive is needed then, or one cell is enough
		}
		k := blank(p).having(3, 0, 2, same(p, 5), descBytes(p, api.Desc{}), upTo(1, n)...)
		hasBytes(t, k.image(), 3, nil, someParts(p, 0))
		k = k.having(3, 0, 2, with(same(p, 4), 5, 0), descBytes(p, api.Desc{}), 0)
		refuses(t, k.image(), 3, api.ErrLost)
		check(t, k, 3, someParts(p, 0))
		found = true
	}
	if !found {
		t.Fatal("no parameters have such a winner")
	}
}

// wrongDescs are data of a stripe that are no descriptor.
func wrongDescs(p api.Params) [][]byte {
	m := measured(p)
	all := [][]byte{filled(m.width, 1), filled(m.width, 255), leafBytes(p, refsOf(p, m.leaf, 3))}
	for _, length := range []int{0, 1, m.width + 1, m.most} {
		depth, many := shaped(p, length)
		right := api.Desc{Length: length, Depth: depth, Refs: refsOf(p, many, 4)}
		for _, place := range []int{0, 1, 4, 5, 6, m.width - 1} {
			b := descBytes(p, right)
			b[place] += 3
			all = append(all, b)
		}
		for _, bad := range []api.Ref{{Row: p.Rows, Version: 1}, {Row: 65535, Version: 1}, {Row: 0, Version: 0}, {Row: 0, Version: most + 1}, {Row: 0, Version: 1<<32 - 1}} {
			for _, at := range []int{0, many - 1} {
				if many > 0 {
					d := right
					d.Refs = slices.Clone(right.Refs)
					d.Refs[at] = bad
					all = append(all, descBytes(p, d))
				}
			}
		}
	}
	return append(all, descBytes(p, api.Desc{Length: m.most + 1}))
}

func TestP18_1NoDescriptor(t *testing.T) {
	for _, p := range few() {
		right, _ := rightImage(p)
		for _, data := range wrongDescs(p) {
			if _, is := readDesc(p, data); is {
				continue // the parameters have it so
			}
			k := right.lost(3).whole(3, 0, 2, 5, data)
			refuses(t, k.image(), 3, api.ErrDesc)
			older := k.whole(3, 1, 2, 4, descBytes(p, api.Desc{}))
			refuses(t, older.image(), 3, api.ErrDesc)
		}
	}
}

// broken is a way in which a leaf or a stripe is wrong, and what is answered then.
type broken struct {
	what string
	err  api.Errno
	make func(k known, at api.Ref, data []byte) known
}

// gone are ways in which a stripe is not there, whose row has no other one.
func gone() []broken {
	lost := func(what string, change func(k known, at api.Ref, data []byte) known) broken {
		return broken{what, api.ErrLost, func(k known, at api.Ref, data []byte) known { return change(k.lost(at.Row), at, data) }}
	}
	return []broken{
		lost("blank", func(k known, at api.Ref, data []byte) known { return k }),
		lost("of the first K - 1 cells", func(k known, at api.Ref, data []byte) known {
			return k.having(at.Row, 1, 1, same(k.p, at.Version), data, upTo(0, k.p.K-1)...)
		}),
		lost("of the last K - 1 cells", func(k known, at api.Ref, data []byte) known {
			return k.having(at.Row, 0, 1, same(k.p, at.Version), data, upTo(k.p.R+1, k.p.K+k.p.R)...)
		}),
		lost("of the version below", func(k known, at api.Ref, data []byte) known {
			return k.whole(at.Row, 0, 1, at.Version-1, data)
		}),
		lost("of the version above", func(k known, at api.Ref, data []byte) known {
			return k.whole(at.Row, 1, 1, at.Version+1, data)
		}),
		lost("of two other versions", func(k known, at api.Ref, data []byte) known {
			return k.whole(at.Row, 0, 1, at.Version+1, data).whole(at.Row, 1, 1, at.Version-1, data)
		}),
		lost("of KindDesc", func(k known, at api.Ref, data []byte) known {
			return k.whole(at.Row, 0, 2, at.Version, data)
		}),
		lost("of KindDesc, and of another version", func(k known, at api.Ref, data []byte) known {
			return k.whole(at.Row, 0, 2, at.Version, data).whole(at.Row, 1, 1, at.Version-1, data)
		}),
		lost("in another row", func(k known, at api.Ref, data []byte) known {
			return k.whole(k.p.Rows-1, 0, 1, at.Version, data)
		}),
	}
}

// noRefs are ways in which a leaf's bytes are not the refs that must be there.
func noRefs() []broken {
	wrong := func(what string, change func(p api.Params, data []byte)) broken {
		return broken{what, api.ErrDesc, func(k known, at api.Ref, data []byte) known {
			data = bytes.Clone(data)
			change(k.p, data)
			return k.lost(at.Row).whole(at.Row, 1, 1, at.Version, data)
		}}
	}
	first := func(what string, r api.Ref) broken {
		return wrong(what, func(p api.Params, data []byte) { copy(data, leafBytes(p, []api.Ref{r})[:6]) })
	}
	return []broken{
		wrong("0 everywhere", func(_ api.Params, data []byte) { clear(data) }),
		wrong("255 everywhere", func(p api.Params, data []byte) { copy(data, filled(len(data), 255)) }),
		wrong("with a ref of the row Rows", func(p api.Params, data []byte) { copy(data, []byte{byte(p.Rows / 256), byte(p.Rows)}) }),
		first("with a ref of the row 65535", api.Ref{Row: 65535, Version: 1}),
		first("with a ref of the version 0", api.Ref{Row: 0, Version: 0}),
		first("with a ref of a version too great", api.Ref{Row: 0, Version: most + 1}),
		first("with a ref of the greatest number", api.Ref{Row: 0, Version: 1<<32 - 1}),
	}
}

// leafy is an image with an object in the row 3 that has leaves, each in a row of its own, the last one with one ref, and whose stripes stand in other rows.
func leafy(p api.Params) (known, object) {
	p.Rows = max(p.Rows, 24)
	m := measured(p)
	length := min(m.most, (m.direct-1)*m.leaf*m.width+1)
	stripes, leaves := needed(length, m.width), needed(needed(length, m.width), m.leaf)
	k := blank(p)
	var refs []api.Ref
	var all []byte
	for i := range stripes {
		at, _ := placeAt(p, 3, leaves+i%(p.Rows-1-leaves))
		data := some(m.width, at.Row)
		k = k.whole(at.Row, 0, 1, at.Version, data)
		refs, all = append(refs, at), append(all, data...)
	}
	k, o := k.builtOf(3, 5, length, refs)
	o.bytes = all[:length]
	return k, o
}

// A leaf that is wrong in any way, the first one, the last one or one in the midst: the length is told, but no part, though all stripes are there.
func TestP18_1WrongLeaves(t *testing.T) {
	t.Parallel()
	for _, p := range deep() {
		k, o := leafy(p)
		tells(t, k.image(), 3, o)
		for i, at := range o.leaves {
			for _, way := range append(gone(), noRefs()...) {
				wrong := way.make(k, at, k.rows[at.Row].data(k.p, 1, at.Version))
				hasLength(t, wrong.image(), 3, len(o.bytes), way.err)
				for _, of := range someParts(k.p, len(o.bytes)) {
					refusesPart(t, wrong.image(), 3, of, way.err)
				}
				if i == len(o.leaves)-1 {
					check(t, wrong, 3, someParts(k.p, len(o.bytes)))
				}
			}
		}
	}
}

// Of two leaves that are wrong the first one is told; a leaf ahead of stripes that are not there.
func TestP18_2TheFirstLeafThatIsWrong(t *testing.T) {
	t.Parallel()
	for _, p := range deep() {
		k, o := leafy(p)
		if k.p.K+k.p.R > 12 && k.p.Rows > 24 {
			continue // great images are the same, but slow
		}
		ways := append(gone(), noRefs()...)
		noStripes := k
		for _, at := range o.stripes[:min(len(o.stripes), k.p.Rows)] {
			noStripes = noStripes.lost(at.Row)
		}
		for first, one := range o.leaves {
			for second := first + 1; second < len(o.leaves); second += 3 {
				other := o.leaves[second]
				for i, a := range ways {
					b := ways[(i+first+second+1)%len(ways)]
					wrong := a.make(noStripes, one, k.rows[one.Row].data(k.p, 1, one.Version))
					wrong = b.make(wrong, other, k.rows[other.Row].data(k.p, 1, other.Version))
					hasLength(t, wrong.image(), 3, len(o.bytes), a.err)
				}
			}
		}
	}
}

// A descriptor that is wrong is told ahead of its leaves, and of its stripes.
func TestP18_2TheDescriptorFirst(t *testing.T) {
	for _, p := range deep() {
		k, o := leafy(p)
		for _, at := range append(slices.Clone(o.leaves), o.stripes[0]) {
			none := k.lost(at.Row)
			data := descBytes(k.p, o.d)
			data[len(data)-1]++
			refuses(t, none.whole(3, 0, 2, 5, data).image(), 3, api.ErrDesc)
			wrong := k.whole(at.Row, 0, 1, at.Version, make([]byte, measured(p).width))
			refuses(t, wrong.lost(3).image(), 3, api.ErrLost)
		}
	}
}

// striped is an image with an object in the row 3 whose stripes have a row of their own each; with Depth 1, if the object can be so long.
func striped(p api.Params, depth int) (known, object) {
	p.Rows = max(p.Rows, 24)
	m := measured(p)
	many := min(m.direct, 8)
	if depth == 1 {
		many = m.direct + 1
	}
	return blank(p).built(3, 5, many*m.width-1, 9)
}

// withoutStripe holds the calls against an object of which some stripes can not be read: the parts that meet none of them are told.
func withoutStripe(t *testing.T, m api.Image, o object, parts []part, lost ...int) {
	t.Helper()
	width := measured(m.P).width
	if length, err := Length(m, 3); length != len(o.bytes) || err != api.OK {
		t.Fatalf("%v: Length is %d, %d, want %d", m.P, length, err, len(o.bytes))
	}
	if b, err := Bytes(m, 3); b != nil || err != api.ErrLost {
		t.Fatalf("%v: Bytes without the stripes %v are %v, %d", m.P, lost, b, err)
	}
	for _, of := range parts {
		want, err := cut(o.bytes, of), api.OK
		if slices.ContainsFunc(lost, func(i int) bool {
			return len(want) > 0 && of.off < (i+1)*width && of.off+len(want) > i*width
		}) {
			want, err = nil, api.ErrLost
		}
		if b, got := Part(m, 3, of.off, of.n); !bytes.Equal(b, want) || got != err || err != api.OK && b != nil {
			t.Fatalf("%v: without the stripes %v the part %v is %v, %d, want %v, %d", m.P, lost, of, b, got, want, err)
		}
	}
}

// around are parts ahead of a stripe, behind it, within it, over its edges, and over all of it.
func around(p api.Params, length, i int) []part {
	width := measured(p).width
	from := i * width
	to := min(length, from+width)
	all := []part{{from, 0}, {from, 1}, {from + 1, 0}, {from, width}, {to - 1, 1}, {to - 1, 2}, {to, 0}, {to, 1}, {to, width}, {0, from}, {0, from + 1}, {0, length}, {to, length - to}, {length, 1}, {(from + to) / 2, 1}}
	if i > 0 {
		all = append(all, part{from - 1, 1}, part{from - 1, 2}, part{from - width, width}, part{from - width, 2 * width}, part{from - 1, width + 2})
	}
	return slices.DeleteFunc(all, func(of part) bool { return of.off+of.n > measured(p).most })
}

// A stripe that can't be read in any way, the first one, the last one, one in the midst.
func TestP18_2LostStripes(t *testing.T) {
	t.Parallel()
	for _, p := range few() {
		depth, _ := shaped(p, measured(p).most)
		for depth := range depth + 1 {
			k, o := striped(p, depth)
			tells(t, k.image(), 3, o)
			for i, at := range o.stripes {
				if k.p.K+k.p.R > 6 && i > 1 && i < len(o.stripes)-2 {
					continue // they are the same, but slow
				}
				for _, way := range gone() {
					if at.Row == k.p.Rows-1 {
						t.Fatalf("%v: a stripe in the last row", k.p)
					}
					wrong := way.make(k, at, k.rows[at.Row].data(k.p, 1, at.Version))
					withoutStripe(t, wrong.image(), o, around(k.p, len(o.bytes), i), i)
				}
				wrong := k.lost(at.Row)
				check(t, wrong, 3, around(k.p, len(o.bytes), i))
			}
		}
	}
}

// Of two stripes that can't be read none of both must be met.
func TestP18_2TwoLostStripes(t *testing.T) {
	t.Parallel()
	for _, p := range few() {
		if p.Rows > 24 && p.K > 2 {
			continue // great images are the same, but slow
		}
		k, o := striped(p, 0)
		for a := range o.stripes {
			for b := range a {
				wrong := k.lost(o.stripes[a].Row).lost(o.stripes[b].Row)
				parts := append(around(k.p, len(o.bytes), a), around(k.p, len(o.bytes), b)...)
				withoutStripe(t, wrong.image(), o, parts, a, b)
			}
		}
	}
}

// Without any stripe parts of no bytes are told, and the length.
func TestP18_2NoStripesAtAll(t *testing.T) {
	for _, p := range few() {
		p.Rows = min(p.Rows, 24)
		for _, length := range lengths(p) {
			if length == 0 {
				continue
			}
			k, o := blank(p).builtOf(2, 5, length, slices.Repeat([]api.Ref{{Row: 1, Version: most}}, needed(length, measured(p).width)))
			k = k.lost(1) // where the last leaf may stand
			if slices.ContainsFunc(o.leaves, func(at api.Ref) bool { return at.Row == 1 }) {
				continue
			}
			m := k.image()
			if got, err := Length(m, 2); got != length || err != api.OK {
				t.Fatalf("%v: Length is %d, %d, want %d", p, got, err, length)
			}
			for _, of := range someParts(p, length) {
				b, err := Part(m, 2, of.off, of.n)
				if meets := of.n > 0 && of.off < length; len(b) != 0 || meets && err != api.ErrLost || !meets && err != api.OK {
					t.Fatalf("%v: of %d bytes the part %v is %v, %d", p, length, of, b, err)
				}
			}
			if b, err := Bytes(m, 2); b != nil || err != api.ErrLost {
				t.Fatalf("%v: Bytes are %v, %d", p, b, err)
			}
		}
	}
}

// A stripe that a slot ahead of the others tells with another vector can't be read.
func TestP18_2StripeThatCanNotBeRead(t *testing.T) {
	found := false
	for _, p := range few() {
		if p.R == 0 || p.K == 1 {
			continue // the first drive is needed then, or one cell is enough
		}
		k, o := striped(p, 0)
		for i, at := range o.stripes {
			v := with(same(k.p, at.Version-1), at.Version, 0)
			wrong := k.having(at.Row, 0, 1, v, filled(measured(p).width, 3), 0)
			withoutStripe(t, wrong.image(), o, around(k.p, len(o.bytes), i), i)
			check(t, wrong, 3, someParts(k.p, len(o.bytes)))
			found = true
		}
	}
	if !found {
		t.Fatal("no parameters have such a stripe")
	}
}

// Slots that are nearly cells of a descriptor or of a stripe are none.
func TestP18_2NoSlots(t *testing.T) {
	p := api.Params{K: 3, R: 2, Cell: 11, Rows: 24}
	data := some(66, 3)
	d := api.Desc{Length: 65, Refs: []api.Ref{{Row: 6, Version: 5}, {Row: 7, Version: 5}}}
	right := blank(p).whole(3, 0, 2, 5, descBytes(p, d)).whole(6, 0, 1, 5, data[:33]).whole(7, 0, 1, 5, data[33:])
	o := object{bytes: data[:65]}
	tells(t, right.image(), 3, o)
	for row, kind := range map[int]uint8{3: 2, 6: 1, 7: 1} {
		for i := range noSlots(p, kind, 0) {
			k := right
			for drive := range p.K + p.R {
				k = k.changed(row, func(r line) { r[drive][0] = noSlots(p, kind, drive)[i] })
				switch {
				case drive < p.R:
					tells(t, k.image(), 3, o)
				case kind == 2:
					refuses(t, k.image(), 3, api.ErrLost)
				default:
					withoutStripe(t, k.image(), o, partsOf(p, 65), row-6)
				}
			}
		}
	}
}

// What is handed in and wrong is not changed either.
func TestP18_3WrongInputsAreOnlyRead(t *testing.T) {
	for _, p := range few() {
		if p.Rows > 20 {
			continue // the images are great
		}
		k, _ := rightImage(p)
		for _, m := range wrongImages(p, k.image()) {
			was := make([][]byte, len(m.Slots))
			for i := range m.Slots {
				was[i] = bytes.Clone(m.Slots[i])
			}
			for _, row := range []int{3, -1} {
				Length(m, row)
				Bytes(m, row)
				Part(m, row, 0, 40)
				Part(m, row, -1, 40)
			}
			if !slices.EqualFunc(m.Slots, was, bytes.Equal) {
				t.Fatalf("%v: a call changes an image that may not be", p)
			}
		}
	}
}
