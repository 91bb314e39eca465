package live

import (
	"bytes"
	"fmt"
	"math"
	"slices"
	"testing"

	"twoslot/api"
)

// wrongImages are images of right parameters that may not be.
func wrongImages(p api.Params, right api.Image) []api.Image {
	slots, size := right.Slots, sizeOf(p)
	var all []api.Image
	for _, l := range [][][]byte{nil, {}, slots[:len(slots)-1], slots[1:], slots[:len(slots)/2], append(slices.Clone(slots), nil), append(slices.Clone(slots), slots...), make([][]byte, len(slots)+2)} {
		all = append(all, api.Image{P: p, Slots: l})
	}
	for _, at := range []int{0, 1, 2 * 3, 2*3 + 1, len(slots) / 2, len(slots) - 2, len(slots) - 1} {
		for _, bad := range [][]byte{{0}, {84, 50}, filled(size-1, 84), filled(size+1, 84), filled(2*size, 0), make([]byte, 1<<16+size)} {
			l := slices.Clone(slots)
			l[at] = bad
			all = append(all, api.Image{P: p, Slots: l})
		}
	}
	return all
}

// wrongBuckets are numbers of no bucket.
func wrongBuckets() []int {
	return []int{-1, -2, -4, 4, 5, 7, 255, 256, 257, 1 << 16, -1 << 16, 1 << 31, -1 << 31, 1 << 32, 1<<32 + 1, -1 << 32, 1 << 62, math.MinInt, math.MinInt + 1, math.MaxInt - 1, math.MaxInt}
}

// refusesAll tells that every call is refused, Next with them, also one with a bucket or a name that may not be.
func refusesAll(t *testing.T, m api.Image, err api.Errno) {
	t.Helper()
	refuses(t, m, err)
	if next, got := Next(m); next != 0 || got != err {
		t.Fatalf("%v: Next is %d, %d, want 0 and %d", m.P, next, got, err)
	}
	for _, bucket := range []int{-1, 4, math.MinInt, math.MaxInt} {
		if l, got := Entries(m, bucket); l != nil || got != err {
			t.Fatalf("%v: Entries of the bucket %d are %v, %d, want %d", m.P, bucket, l, got, err)
		}
	}
	for _, name := range wrongNames()[:3] {
		if its := foundIn(m, name); its != (found{err: err}) {
			t.Fatalf("%v: Find of %.40q is %v, want %d", m.P, name, its, err)
		}
	}
}

func TestP23_1To3WrongImages(t *testing.T) {
	t.Parallel()
	for _, p := range few() {
		p.Rows = min(p.Rows, 30)
		for _, m := range append(wrongImages(p, standing(p, 2).image()), wrongImages(p, blank(p).image())...) {
			refusesAll(t, m, api.ErrImage)
		}
	}
}

func TestP23_1To3WrongParams(t *testing.T) {
	t.Parallel()
	right := standing(exampleP(), 2).image()
	wrongParams(func(p api.Params) {
		refusesAll(t, api.Image{P: p, Slots: right.Slots}, api.ErrParams)
		refusesAll(t, api.Image{P: p}, api.ErrParams)
	})
	refusesAll(t, api.Image{}, api.ErrParams)
}

// A bucket, or a name, that may not be is told ahead of a directory that is lost.
func TestP23_1WrongBucketsAndNames(t *testing.T) {
	for _, p := range few() {
		its := standing(p, 3)
		noDir := its.lost(0)
		noBuckets := its.known
		for _, row := range its.buckets {
			noBuckets = noBuckets.lost(row)
		}
		bad := its.lost(0).whole(0, 0, 2, 5, filled(p.K*p.Cell, 9))
		for _, k := range []known{its.known, noDir, noBuckets, bad, blank(p)} {
			m := k.image()
			for _, bucket := range wrongBuckets() {
				if l, err := Entries(m, bucket); l != nil || err != api.ErrParams {
					t.Fatalf("%v: Entries of the bucket %d are %v, %d", p, bucket, l, err)
				}
			}
			for _, name := range wrongNames() {
				if got := foundIn(m, name); got != (found{err: api.ErrName}) {
					t.Fatalf("%v: Find of %.40q is %v", p, name, got)
				}
			}
			checkNext(t, k, m)
		}
		refuses(t, noDir.image(), api.ErrLost)
		refuses(t, blank(p).image(), api.ErrLost)
		refuses(t, bad.image(), api.ErrDesc)
	}
}

// broken is a way in which an object is wrong, and the error.
type broken struct {
	what string
	err  api.Errno
	make func(its stood, row int) known
}

// hurt is an image with another descriptor in a row, or with none.
func hurt(what string, err api.Errno, change func(k known, row int) known) broken {
	return broken{what, err, func(its stood, row int) known { return change(its.lost(row), row) }}
}

// wrongDescs are ways in which no right descriptor counts in a row.
func wrongDescs() []broken {
	empty := func(p api.Params) []byte { return descBytes(p, api.Desc{}) }
	return []broken{
		hurt("none", api.ErrLost, func(k known, row int) known { return k }),
		hurt("K - 1 cells", api.ErrLost, func(k known, row int) known {
			return k.having(row, 1, 2, same(k.p, 30), empty(k.p), upTo(0, k.p.K-1)...)
		}),
		hurt("KindData", api.ErrLost, func(k known, row int) known { return k.whole(row, 0, 1, 30, empty(k.p)) }),
		hurt("two versions in one vector", api.ErrLost, func(k known, row int) known {
			n := k.p.K + k.p.R
			if n == 1 {
				return k
			}
			return k.having(row, 0, 2, with(same(k.p, 30), 31, n-1), empty(k.p), upTo(0, n)...)
		}),
		hurt("Depth 2", api.ErrDesc, func(k known, row int) known {
			return k.whole(row, 0, 2, 30, append([]byte{0, 0, 0, 0, 2}, empty(k.p)[5:]...))
		}),
		hurt("a byte behind it", api.ErrDesc, func(k known, row int) known {
			data := empty(k.p)
			data[len(data)-1] = 1
			return k.whole(row, 1, 2, 30, data)
		}),
		hurt("above Most", api.ErrDesc, func(k known, row int) known {
			return k.whole(row, 1, 2, 30, append(four(measured(k.p).most+1), empty(k.p)[4:]...))
		}),
	}
}

// rewritten is the image with other bytes in the first stripe of an object.
func rewritten(its stood, row int, change func(data []byte)) known {
	at := its.lives[row][1]
	data := bytes.Clone(its.rows[at.Row].data(its.p, 1, at.Version))
	change(data)
	return its.lost(at.Row).whole(at.Row, 1, 1, at.Version, data)
}

// noStripe is the image without the last stripe of an object.
func noStripe() broken {
	return broken{"without a stripe", api.ErrLost, func(its stood, row int) known {
		return its.lost(its.lives[row][len(its.lives[row])-1].Row)
	}}
}

// other is the image with other bytes for an object's.
func other(what string, change func(p api.Params, data []byte)) broken {
	return broken{what, 220, func(its stood, row int) known {
		return rewritten(its, row, func(data []byte) { change(its.p, data) })
	}}
}

// ofLength is the image in which an object has another length, in the stripe that it has.
func ofLength(length int) broken {
	return broken{fmt.Sprint("of the length ", length), 220, func(its stood, row int) known {
		lives := its.lives[row]
		refs := []api.Ref{{Row: lives[1].Row, Version: lives[1].Version}}
		return its.lost(row).whole(row, 0, 2, 30, descBytes(its.p, api.Desc{Length: length, Refs: refs[:needed(length, measured(its.p).width)]}))
	}}
}

// wrongRoots are ways in which the root is wrong.
func wrongRoots() []broken {
	all := append(wrongDescs(), noStripe())
	for _, length := range []int{0, 1, 2, 6, 7, 9, 10, 12, 16, 32} {
		all = append(all, ofLength(length))
	}
	for place := range buckets {
		all = append(all,
			other("the row Rows", func(p api.Params, data []byte) { copy(data[2*place:], rowBytes(p.Rows)) }),
			other("the row 65535", func(p api.Params, data []byte) { copy(data[2*place:], rowBytes(65535)) }),
			other("a row of 256 more", func(p api.Params, data []byte) { data[2*place]++ }),
		)
	}
	return all
}

// wrongBucketBytes are ways in which a bucket is wrong, whose first name has one byte.
func wrongBucketBytes() []broken {
	return append(wrongDescs(), noStripe(),
		ofLength(1), ofLength(3), ofLength(5), ofLength(7),
		other("a name of no bytes", func(p api.Params, data []byte) { data[0] = 0 }),
		other("a name that is too long", func(p api.Params, data []byte) { data[0] = 25 }),
		other("a name beyond the end", func(p api.Params, data []byte) { data[0] = 6 }),
		other("the row Rows", func(p api.Params, data []byte) { copy(data[2:], rowBytes(p.Rows)) }),
		other("the row 65535", func(p api.Params, data []byte) { copy(data[2:], rowBytes(65535)) }),
		other("a name twice", func(p api.Params, data []byte) { data[5] = data[1] }),
		other("names that do not rise", func(p api.Params, data []byte) { data[1] = data[5] + 1 }),
	)
}

// wrongObjects are ways in which an object with leaves is wrong.
func wrongObjects(deep bool) []broken {
	all := wrongDescs()
	if !deep {
		return all
	}
	for _, last := range []bool{false, true} {
		at := func(its stood, row int) api.Live {
			_, many := shaped(its.p, deepLength(its.p))
			if last {
				return its.lives[row][many]
			}
			return its.lives[row][1]
		}
		all = append(all,
			broken{"without a leaf", api.ErrLost, func(its stood, row int) known { return its.lost(at(its, row).Row) }},
			broken{"a leaf of another version", api.ErrLost, func(its stood, row int) known {
				return its.lost(at(its, row).Row).whole(at(its, row).Row, 0, 1, at(its, row).Version-1, make([]byte, measured(its.p).width))
			}},
			broken{"a leaf that is none", api.ErrDesc, func(its stood, row int) known {
				return its.lost(at(its, row).Row).whole(at(its, row).Row, 0, 1, at(its, row).Version, make([]byte, measured(its.p).width))
			}},
		)
	}
	return all
}

// deepLength is a length with leaves; 0, if there is none of a few stripes.
func deepLength(p api.Params) int {
	m := measured(p)
	if length := m.direct*m.width + 1; m.direct < 9 && length <= m.most {
		return length
	}
	return 0
}

// directory is an image with two entries in each bucket, all of whose names have one byte; the second object of each has leaves, if any can.
func directory(p api.Params, seed int) stood {
	p.Rows = max(p.Rows, 64)
	its := begun(p, seed)
	for range buckets {
		its.buckets = append(its.buckets, its.take())
	}
	for i := range 2 * buckets {
		row := its.take()
		its.object(row, some(max(1, i/buckets*deepLength(p)), i+seed))
		name := string([]byte{byte(100 + i)})
		its.entries[i%buckets] = append(its.entries[i%buckets], entry(name, row))
	}
	return its.done()
}

// names are those of a directory, and one more of each bucket.
func names() []string {
	var all []string
	for i := range 3 * buckets {
		all = append(all, string([]byte{byte(100 + i)}))
	}
	return all
}

// errs are the errors of all calls: of Buckets, of Entries and of Find of each bucket, of Descs, of Stripes, of Rows, of Whole.
func errs(m api.Image) []api.Errno {
	_, err := Buckets(m)
	all := []api.Errno{err}
	for bucket := range buckets {
		_, err := Entries(m, bucket)
		all = append(all, err, foundIn(m, string([]byte{byte(100 + bucket)})).err)
	}
	_, err1 := Descs(m)
	_, err2 := Stripes(m)
	_, err3 := Rows(m)
	_, err4 := Whole(m)
	return append(all, err1, err2, err3, err4)
}

// wrongFrom are the errors where the root, a bucket or an object is wrong: what is named above it is told.
func wrongFrom(level, bucket int, err api.Errno) []api.Errno {
	all := make([]api.Errno, 1+2*buckets+4)
	for i := range all {
		ofBucket := i == 1+2*bucket || i == 2+2*bucket
		if level == 0 || level == 1 && (ofBucket || i > 2*buckets) || level == 2 && i > 2*buckets+1 {
			all[i] = err
		}
	}
	return all
}

// fails tells of which error the calls are, beside what the document's sentences say.
func fails(t *testing.T, k known, what string, want []api.Errno) {
	t.Helper()
	if got := errs(k.image()); !slices.Equal(got, want) {
		t.Fatalf("%v: with %s the errors are %v, want %v", k.p, what, got, want)
	}
	check(t, k, names()...)
}

func TestP23_1WrongRoots(t *testing.T) {
	t.Parallel()
	for _, p := range few() {
		its := directory(p, 1)
		fails(t, its.known, "nothing", make([]api.Errno, 13))
		for _, way := range wrongRoots() {
			wrong := way.make(its, 0)
			fails(t, wrong, "the root "+way.what, wrongFrom(0, 0, way.err))
			refuses(t, wrong.image(), way.err)
		}
	}
}

// A root that is longer than a descriptor names by itself, whose leaves are lost, or are there.
func TestP23_1RootsWithLeaves(t *testing.T) {
	for _, p := range few() {
		length := deepLength(p)
		if length == 0 {
			continue
		}
		its := directory(p, 2)
		its.object(0, append(rowBytes(its.buckets...), make([]byte, length-8)...))
		fails(t, its.known, "a longer root", wrongFrom(0, 0, 220))
		fails(t, its.lost(its.lives[0][1].Row), "a longer root without a leaf", wrongFrom(0, 0, api.ErrLost))
	}
}

func TestP23_1WrongBucketObjects(t *testing.T) {
	t.Parallel()
	for _, p := range few() {
		its := directory(p, 3)
		for bucket, row := range its.buckets {
			for _, way := range wrongBucketBytes() {
				fails(t, way.make(its, row), "a bucket "+way.what, wrongFrom(1, bucket, way.err))
			}
		}
	}
}

func TestP23_2WrongObjects(t *testing.T) {
	t.Parallel()
	for _, p := range few() {
		its := directory(p, 4)
		for bucket, l := range its.entries {
			for i, x := range l {
				for _, way := range wrongObjects(i == 1 && deepLength(p) > 0) {
					fails(t, way.make(its, x.Row), "an object "+way.what, wrongFrom(2, bucket, way.err))
				}
				k := noStripe().make(its, x.Row)
				fails(t, k, "an object without a stripe", make([]api.Errno, 13))
				wholeIs(t, k, false, "an object without a stripe")
			}
		}
	}
}

// An entry may name a row in which there is no descriptor, or one that is lost.
func TestP23_2EntriesOfOtherRows(t *testing.T) {
	for _, p := range few() {
		its := directory(p, 5)
		for bucket, row := range its.buckets {
			for _, wrong := range []int{its.free[0], its.lives[0][1].Row, its.lives[row][1].Row} {
				k := rewritten(its, row, func(data []byte) { copy(data[6:], rowBytes(wrong)) })
				k = k.lost(its.free[0])
				fails(t, k, "an entry of a row without a descriptor", wrongFrom(2, bucket, api.ErrLost))
				if got := foundIn(k.image(), its.entries[bucket][1].Name); got != (found{wrong, row, true, api.OK}) {
					t.Fatalf("%v: Find is %v", p, got)
				}
			}
		}
	}
}

// place is where an object stands in the directory: in the order in which it is asked for.
type place struct{ level, bucket, entry int }

// row is the row of its descriptor.
func (at place) row(its stood) int {
	switch at.level {
	case 0:
		return 0
	case 1:
		return its.buckets[at.bucket]
	}
	return its.entries[at.bucket][at.entry].Row
}

// ways are those in which it may be wrong.
func (at place) ways(p api.Params) []broken {
	switch at.level {
	case 0:
		return wrongRoots()
	case 1:
		return wrongBucketBytes()
	}
	return wrongObjects(at.entry == 1 && deepLength(p) > 0)
}

// places are all of them.
func places() []place {
	all := []place{{}}
	for bucket := range buckets {
		all = append(all, place{1, bucket, 0})
	}
	for bucket := range buckets {
		all = append(all, place{2, bucket, 0}, place{2, bucket, 1})
	}
	return all
}

// Of two things that are wrong the first one is told: the root ahead of the buckets, bucket by bucket, all buckets ahead of the objects, entry by entry.
func TestP23_2TwoThingsWrong(t *testing.T) {
	t.Parallel()
	for _, p := range few() {
		its := directory(p, 6)
		for i, second := range places() {
			for _, first := range places()[:i] {
				for turn := range 2 {
					a := one(its.throw, first.ways(its.p))
					b := one(its.throw, second.ways(its.p))
					if turn%2 == 0 && a.err == b.err {
						continue // the errors are to be unlike, mostly
					}
					now := its
					now.known = b.make(its, second.row(its))
					now.known = a.make(now, first.row(its))
					if _, err := Stripes(now.image()); err != a.err {
						t.Fatalf("%v: with %v %s and %v %s Stripes end in %d, want %d", p, first, a.what, second, b.what, err, a.err)
					}
					check(t, now.known, names()...)
				}
			}
		}
	}
}

// What is handed in and wrong is not changed either.
func TestP23_4WrongInputsAreOnlyRead(t *testing.T) {
	for _, p := range few() {
		if p.Rows > 20 {
			continue // the images are great
		}
		for _, m := range wrongImages(p, standing(p, 4).image()) {
			was := make([][]byte, len(m.Slots))
			for i := range m.Slots {
				was[i] = bytes.Clone(m.Slots[i])
			}
			errs(m)
			Next(m)
			if !slices.EqualFunc(m.Slots, was, bytes.Equal) {
				t.Fatalf("%v: a call changes an image that may not be", p)
			}
		}
	}
}
