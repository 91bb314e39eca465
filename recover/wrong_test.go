package recover

import (
	"bytes"
	"fmt"
	"slices"
	"testing"

	"twoslot/api"
)

// wrongImages are images of right parameters that may not be.
func wrongImages(p api.Params, right api.Image) []api.Image {
	slots, size := right.Slots, sizeOf(p)
	var all []api.Image
	for _, l := range [][][]byte{nil, {}, slots[:len(slots)-1], slots[1:], slots[:len(slots)/2], append(slices.Clone(slots), nil), append(slices.Clone(slots), slots...), make([][]byte, len(slots)+2)} {
		all = append(all, api.Image{P: p, Slots: l})
	}
	for _, at := range []int{0, 1, 2 * 3, 2*3 + 1, len(slots) / 2, len(slots) - 2, len(slots) - 1} {
		for _, bad := range [][]byte{{0}, {84, 50}, filled(size-1, 84), filled(size+1, 84), filled(2*size, 0), make([]byte, 1<<16+size)} {
			l := slices.Clone(slots)
			l[at] = bad
			all = append(all, api.Image{P: p, Slots: l})
		}
	}
	return all
}

func TestP24_1And2WrongImages(t *testing.T) {
	t.Parallel()
	for _, p := range few() {
		p.Rows = min(p.Rows, 30)
		for _, m := range append(wrongImages(p, standing(p, 2).image()), wrongImages(p, blank(p).image())...) {
			answersWith(t, m, nil, api.ErrImage, "a wrong image")
		}
	}
}

func TestP24_1And2WrongParams(t *testing.T) {
	t.Parallel()
	right := standing(exampleP(), 2).image()
	wrongParams(func(p api.Params) {
		answersWith(t, api.Image{P: p, Slots: right.Slots}, nil, api.ErrParams, "wrong parameters")
		answersWith(t, api.Image{P: p}, nil, api.ErrParams, "wrong parameters")
	})
	answersWith(t, api.Image{}, nil, api.ErrParams, "no image")
}

// broken is a way in which an object is wrong, and the error.
type broken struct {
	what string
	err  api.Errno
	make func(its stood, row int) known
}

// hurt is an image with another descriptor in a row, or with none.
func hurt(what string, err api.Errno, change func(k known, row int) known) broken {
	return broken{what, err, func(its stood, row int) known { return change(its.lost(row), row) }}
}

// wrongDescs are ways in which no right descriptor counts in a row.
func wrongDescs() []broken {
	empty := func(p api.Params) []byte { return descBytes(p, api.Desc{}) }
	return []broken{
		hurt("none", api.ErrLost, func(k known, row int) known { return k }),
		hurt("K - 1 cells", api.ErrLost, func(k known, row int) known {
			return k.having(row, 1, 2, same(k.p, 30), empty(k.p), upTo(0, k.p.K-1)...)
		}),
		hurt("KindData", api.ErrLost, func(k known, row int) known { return k.whole(row, 0, 1, 30, empty(k.p)) }),
		hurt("two versions in one vector", api.ErrLost, func(k known, row int) known {
			n := k.p.K + k.p.R
			if n == 1 {
				return k
			}
			return k.having(row, 0, 2, with(same(k.p, 30), 31, n-1), empty(k.p), upTo(0, n)...)
		}),
		hurt("Depth 2", api.ErrDesc, func(k known, row int) known {
			return k.whole(row, 0, 2, 30, append([]byte{0, 0, 0, 0, 2}, empty(k.p)[5:]...))
		}),
		hurt("a byte behind it, half done", api.ErrDesc, func(k known, row int) known {
			data := empty(k.p)
			data[len(data)-1] = 1
			return k.having(row, 1, 2, same(k.p, 30), data, upTo(k.p.R, k.p.K+k.p.R)...)
		}),
		hurt("above Most", api.ErrDesc, func(k known, row int) known {
			return k.whole(row, 1, 2, 30, append(four(measured(k.p).most+1), empty(k.p)[4:]...))
		}),
	}
}

// rewritten is the image with other bytes in the first stripe of an object.
func rewritten(its stood, row int, change func(data []byte)) known {
	at := its.lives[row][1]
	data := bytes.Clone(its.rows[at.Row].data(its.p, 1, at.Version))
	change(data)
	return its.lost(at.Row).whole(at.Row, 1, 1, at.Version, data)
}

// noStripe is the image without the last stripe of an object.
func noStripe() broken {
	return broken{"without a stripe", api.ErrLost, func(its stood, row int) known {
		return its.lost(its.lives[row][len(its.lives[row])-1].Row)
	}}
}

// other is the image with other bytes for an object's.
func other(what string, change func(p api.Params, data []byte)) broken {
	return broken{what, 220, func(its stood, row int) known {
		return rewritten(its, row, func(data []byte) { change(its.p, data) })
	}}
}

// ofLength is the image in which an object has another length, in the stripe that it has.
func ofLength(length int) broken {
	return broken{fmt.Sprint("of the length ", length), 220, func(its stood, row int) known {
		lives := its.lives[row]
		refs := []api.Ref{{Row: lives[1].Row, Version: lives[1].Version}}
		return its.lost(row).whole(row, 0, 2, 30, descBytes(its.p, api.Desc{Length: length, Refs: refs[:needed(length, measured(its.p).width)]}))
	}}
}

// wrongRoots are ways in which the root is wrong.
func wrongRoots() []broken {
	all := append(wrongDescs(), noStripe())
	for _, length := range []int{0, 1, 2, 6, 7, 9, 10, 12, 16, 32} {
		all = append(all, ofLength(length))
	}
	for place := range buckets {
		all = append(all,
			other("the row Rows", func(p api.Params, data []byte) { copy(data[2*place:], rowBytes(p.Rows)) }),
			other("the row 65535", func(p api.Params, data []byte) { copy(data[2*place:], rowBytes(65535)) }),
			other("a row of 256 more", func(p api.Params, data []byte) { data[2*place]++ }),
		)
	}
	return all
}

// wrongBucketBytes are ways in which a bucket is wrong, whose first name has one byte.
func wrongBucketBytes() []broken {
	return append(wrongDescs(), noStripe(),
		ofLength(1), ofLength(3), ofLength(5), ofLength(7),
		other("a name of no bytes", func(p api.Params, data []byte) { data[0] = 0 }),
		other("a name that is too long", func(p api.Params, data []byte) { data[0] = 25 }),
		other("a name beyond the end", func(p api.Params, data []byte) { data[0] = 6 }),
		other("the row Rows", func(p api.Params, data []byte) { copy(data[2:], rowBytes(p.Rows)) }),
		other("the row 65535", func(p api.Params, data []byte) { copy(data[2:], rowBytes(65535)) }),
		other("a name twice", func(p api.Params, data []byte) { data[5] = data[1] }),
		other("names that do not rise", func(p api.Params, data []byte) { data[1] = data[5] + 1 }),
	)
}

// wrongObjects are ways in which an object with leaves is wrong.
func wrongObjects(deep bool) []broken {
	all := wrongDescs()
	if !deep {
		return all
	}
	for _, last := range []bool{false, true} {
		at := func(its stood, row int) api.Live {
			_, many := shaped(its.p, deepLength(its.p))
			if last {
				return its.lives[row][many]
			}
			return its.lives[row][1]
		}
		all = append(all,
			broken{"without a leaf", api.ErrLost, func(its stood, row int) known { return its.lost(at(its, row).Row) }},
			broken{"a leaf of another version", api.ErrLost, func(its stood, row int) known {
				return its.lost(at(its, row).Row).whole(at(its, row).Row, 0, 1, at(its, row).Version-1, make([]byte, measured(its.p).width))
			}},
			broken{"a leaf that is none", api.ErrDesc, func(its stood, row int) known {
				return its.lost(at(its, row).Row).whole(at(its, row).Row, 0, 1, at(its, row).Version, make([]byte, measured(its.p).width))
			}},
		)
	}
	return all
}

// deepLength is a length with leaves; 0, if there is none of a few stripes.
func deepLength(p api.Params) int {
	m := measured(p)
	if length := m.direct*m.width + 1; m.direct < 9 && length <= m.most {
		return length
	}
	return 0
}

// directory is an image with two entries in each bucket, all of whose names have one byte; the second object of each has leaves, if any can. All descriptors are held by all drives, with nothing beside them.
func directory(p api.Params, seed int) stood {
	p.Rows = max(64, min(p.Rows, 80)) // great images are the same, but slow
	its := begun(p, seed)
	for i := range 2 * buckets {
		row := its.take()
		its.object(row, some(max(1, i/buckets*deepLength(p)), i+seed))
		name := string([]byte{byte(100 + i)})
		its.entries[i%buckets] = append(its.entries[i%buckets], entry(name, row))
	}
	return its.done()
}

// crashed is such an image in which all descriptors are half done, as far as there is parity.
func crashed(p api.Params, seed int) stood {
	its := directory(p, seed)
	for _, row := range its.descs() {
		its.known = its.changed(row, func(r line) {
			for drive := p.K; drive < len(r); drive++ {
				r[drive][its.winning(row, drive)] = content{}
			}
		})
	}
	return its
}

// fails tells of which error the calls are, and that the document's sentences say the same.
func fails(t *testing.T, k known, err api.Errno, what ...any) {
	t.Helper()
	answersWith(t, k.image(), nil, err, what...)
	check(t, k, what...)
}

// place is where an object stands in the directory: in the order in which it is asked for.
type place struct{ level, bucket, entry int }

// row is the row of its descriptor.
func (at place) row(its stood) int {
	switch at.level {
	case 0:
		return 0
	case 1:
		return its.buckets[at.bucket]
	}
	return its.entries[at.bucket][at.entry].Row
}

// ways are those in which it may be wrong.
func (at place) ways(p api.Params) []broken {
	switch at.level {
	case 0:
		return wrongRoots()
	case 1:
		return wrongBucketBytes()
	}
	return wrongObjects(at.entry == 1 && deepLength(p) > 0)
}

// everywhere are all of them.
func everywhere() []place {
	all := []place{{}}
	for bucket := range buckets {
		all = append(all, place{1, bucket, 0})
	}
	for bucket := range buckets {
		all = append(all, place{2, bucket, 0}, place{2, bucket, 1})
	}
	return all
}

// Each thing wrong that there may be, at each place, where all else is to be finished, or is whole: no raw writes beside the error.
func TestP24_1EachThingWrong(t *testing.T) {
	t.Parallel()
	for _, p := range few() {
		for i, its := range []stood{crashed(p, 1), directory(p, 2)} {
			if i > 0 && p.K > 4 {
				continue // the same, but slow
			}
			if puts := check(t, its.known); (len(puts) == 0) != (p.R == 0 || i > 0) {
				t.Fatalf("%v: the raw writes are %s", p, places(puts))
			}
			for _, at := range everywhere() {
				for _, way := range at.ways(its.p) {
					fails(t, way.make(its, at.row(its)), way.err, at, way.what)
				}
			}
		}
	}
}

// A root that is longer than a descriptor names by itself, whose leaves are lost, or are there.
func TestP24_1RootsWithLeaves(t *testing.T) {
	for _, p := range few() {
		length := deepLength(p)
		if length == 0 {
			continue
		}
		its := directory(p, 2)
		its.known = its.lost(0)
		its.object(0, append(rowBytes(its.buckets...), make([]byte, length-8)...))
		fails(t, its.known, 220, "a longer root")
		fails(t, its.lost(its.lives[0][1].Row), api.ErrLost, "a longer root without a leaf")
	}
}

// An entry may name a row in which there is no descriptor, or one that is lost.
func TestP24_1EntriesOfOtherRows(t *testing.T) {
	for _, p := range few() {
		its := crashed(p, 5)
		for _, row := range its.buckets {
			for _, wrong := range []int{its.free[0], its.lives[0][1].Row, its.lives[row][1].Row} {
				k := rewritten(its, row, func(data []byte) { copy(data[6:], rowBytes(wrong)) }).lost(its.free[0])
				fails(t, k, api.ErrLost, "an entry of a row without a descriptor")
			}
		}
	}
}

// Of two things that are wrong the first one is told: the root ahead of the buckets, bucket by bucket, all buckets ahead of the objects, entry by entry.
func TestP24_1TwoThingsWrong(t *testing.T) {
	t.Parallel()
	for _, p := range few() {
		its := crashed(p, 6)
		for i, second := range everywhere() {
			for _, first := range everywhere()[:i] {
				for turn := range 2 {
					a := one(its.throw, first.ways(its.p))
					b := one(its.throw, second.ways(its.p))
					if turn%2 == 0 && a.err == b.err {
						continue // the errors are to be unlike, mostly
					}
					now := its
					now.known = b.make(its, second.row(its))
					now.known = a.make(now, first.row(its))
					fails(t, now.known, a.err, first, a.what, second, b.what)
				}
			}
		}
	}
}

// An image that may not be is told ahead of a directory that is lost.
func TestP24_1WrongImagesWithoutADirectory(t *testing.T) {
	for _, p := range few() {
		m := directory(p, 3).lost(0).image()
		answersWith(t, m, nil, api.ErrLost, "no root")
		m.Slots[len(m.Slots)-1] = []byte{1}
		answersWith(t, m, nil, api.ErrImage, "no root, and a wrong slot")
		m.P.K = 0
		answersWith(t, m, nil, api.ErrParams, "no root, a wrong slot, wrong parameters")
	}
}

// The winner counts, but a slot ahead of the others tells its version with another vector, by which too few cells are there.
func TestP24_1TooFewCellsByAnotherVector(t *testing.T) {
	for _, p := range few() {
		if p.K == 1 || p.R == 0 {
			continue // one cell is always there; without parity each drive is needed as a holder
		}
		its := crashed(p, 7)
		for _, row := range its.fewDescs() {
			k := its.known
			for drive := 1; drive <= p.K; drive++ {
				k = k.holding(drive, row, 0, beside(p, drive, 33)).holding(drive, row, 1, content{})
			}
			v := with(same(p, 3), 33, 0)
			k = k.holding(0, row, 0, contentOf(slotOf(2, 0, v, some(p.Cell, 1)))).holding(0, row, 1, content{})
			fails(t, k, api.ErrLost, "another vector in the row", row)
		}
	}
}
