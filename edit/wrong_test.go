package edit

import (
	"math"
	"slices"
	"testing"

	"twoslot/api"
)

// fault is something that is wrong in a call, or in the image that it is made on.
type fault struct {
	what, where string // two faults of one place can't be put together
	err         api.Errno
	call        func(c *call)
	image       func(k known, o told) known
}

// inCall is a fault of what is handed in beside the image.
func inCall(what, where string, err api.Errno, change func(c *call)) fault {
	return fault{what, where, err, change, func(k known, _ told) known { return k }}
}

// inImage is a fault of the image.
func inImage(what, where string, err api.Errno, change func(k known, o told) known) fault {
	return fault{what, where, err, func(*call) {}, change}
}

// wrongRows are numbers of no row: beyond the ends, the greatest and the least of all, and such as are alike in their last bytes.
func wrongRows(p api.Params) []int {
	return []int{-1, -2, p.Rows, p.Rows + 1, 257, 65536, -65536, -p.Rows, 1 << 31, -1 << 31, 3 + 1<<32, 3 - 1<<32, 3 ^ math.MinInt, math.MinInt, math.MinInt + 1, math.MaxInt - 1, math.MaxInt}
}

// numberFaults are those of the row, the free rows and the version, which have one error.
func numberFaults(p api.Params) []fault {
	var all []fault
	for _, row := range wrongRows(p) {
		all = append(all, inCall("no row", "row", api.ErrParams, func(c *call) { c.row = row }))
		all = append(all, inCall("no free row, the last one", "free", api.ErrParams, func(c *call) { c.free = append(slices.Clone(c.free), row) }))
		all = append(all, inCall("no free row, the first one", "free", api.ErrParams, func(c *call) { c.free = append([]int{row}, c.free...) }))
		all = append(all, inCall("no free row, in the midst", "free", api.ErrParams, func(c *call) { c.free = slices.Insert(slices.Clone(c.free), 1, row) }))
		all = append(all, inCall("no free row, the only one", "free", api.ErrParams, func(c *call) { c.free = []int{row} }))
	}
	for _, free := range [][]int{{1, 0}, {0, 0}, {2, 2}, {p.Rows - 1, p.Rows - 1}, {0, 1, 2, 2}, {0, 1, 2, 1}, {0, 2, 1, 3}, {p.Rows - 1, 0}, upTo(-1, p.Rows), upTo(0, p.Rows+1), make([]int, 70000)} {
		all = append(all, inCall("free rows that do not rise", "free", api.ErrParams, func(c *call) { c.free = free }))
	}
	for _, version := range []int{0, -1, most + 1, most + 2, -most, 1 << 31, 1 << 32, 1<<32 + newest + 1, math.MinInt, math.MaxInt} {
		all = append(all, inCall("no version", "version", api.ErrParams, func(c *call) { c.version = version }))
	}
	return all
}

// setFaults are those of the length, of where data begin and of where they end, in the order in which they are told; every one of a later list is told behind all of an earlier one.
func setFaults(p api.Params) (below, great, behind []fault) {
	top := measured(p).most
	for _, number := range []int{-1, -2, -top, -1 << 31, -1 << 32, math.MinInt, math.MinInt + 1} {
		below = append(below, inCall("a length below 0", "length", api.ErrParams, func(c *call) { c.length = number }))
		below = append(below, inCall("a place below 0", "off", api.ErrParams, func(c *call) { c.off = number }))
	}
	for _, number := range []int{top + 1, top + 2, 32769, 1 << 16, 1 << 31, 1 << 32, 1<<32 + 1, 1 << 62, math.MaxInt - 1, math.MaxInt} {
		great = append(great, inCall("a length above Most", "length", api.ErrTooBig, func(c *call) { c.length = number }))
		behind = append(behind, inCall("a place behind the length", "off", api.ErrParams, func(c *call) { c.off = number }))
	}
	behind = append(behind,
		inCall("data that end one byte behind the length", "data", api.ErrParams, func(c *call) { c.data = make([]byte, top+1) }),
		inCall("more data than any object has", "data", api.ErrParams, func(c *call) { c.data = make([]byte, 1<<16+1) }),
		inCall("data that end behind the length", "off", api.ErrParams, func(c *call) { c.off = max(0, c.length-len(c.data)) + 1 }),
	)
	return below, great, behind
}

// objectFaults are those of the descriptor and of the leaves: those of the descriptor are told first.
func objectFaults(p api.Params) (ofDesc, ofLeaves []fault) {
	width := measured(p).width
	ofDesc = []fault{
		inImage("no descriptor", "desc", api.ErrLost, func(k known, _ told) known { return k.lost(3) }),
		inImage("too few cells of a descriptor", "desc", api.ErrLost, func(k known, o told) known {
			return k.lost(3).having(3, 1, 2, same(p, newest), descBytes(p, o.d), upTo(0, p.K-1)...)
		}),
		inImage("a stripe of KindData for the descriptor", "desc", api.ErrLost, func(k known, o told) known {
			return k.lost(3).whole(3, 0, 1, newest, descBytes(p, o.d))
		}),
		inImage("a descriptor that may not be", "desc", api.ErrDesc, func(k known, _ told) known { return k.lost(3).whole(3, 0, 2, newest, filled(width, 1)) }),
		inImage("a descriptor with a byte behind it", "desc", api.ErrDesc, func(k known, o told) known {
			data := descBytes(p, o.d)
			data[width-1]++
			return k.lost(3).whole(3, 1, 2, newest, data)
		}),
	}
	for _, last := range []bool{false, true} {
		at := func(o told) api.Ref {
			if last {
				return o.leaves[len(o.leaves)-1]
			}
			return o.leaves[0]
		}
		ofLeaves = append(ofLeaves,
			inImage("a leaf that is not there", "leaf", api.ErrLost, func(k known, o told) known { return k.lost(at(o).Row) }),
			inImage("a leaf of another version", "leaf", api.ErrLost, func(k known, o told) known {
				return k.lost(at(o).Row).whole(at(o).Row, 0, 1, at(o).Version-1, make([]byte, width))
			}),
			inImage("a leaf that is none", "leaf", api.ErrDesc, func(k known, o told) known {
				return k.lost(at(o).Row).whole(at(o).Row, 0, 1, at(o).Version, make([]byte, width))
			}),
		)
	}
	return ofDesc, ofLeaves
}

// againOf is the image in which the object names other versions: all is there, but newer.
func againOf(k known, o told, leaf, stripe int, version int) known {
	stripes, leaves := slices.Clone(o.stripes), slices.Clone(o.leaves)
	if stripe >= 0 {
		stripes[stripe].Version = version
		k = k.lost(stripes[stripe].Row).whole(stripes[stripe].Row, 0, 1, version, o.data[stripe])
	}
	if leaf >= 0 {
		leaves[leaf].Version = version
	}
	for i, at := range leaves {
		room := measured(k.p).leaf
		k = k.lost(at.Row).whole(at.Row, 1, 1, at.Version, leafBytes(k.p, stripes[i*room:min(len(stripes), (i+1)*room)]))
	}
	d := api.Desc{Length: o.d.Length, Depth: o.d.Depth, Refs: leaves}
	if d.Depth == 0 {
		d.Refs = stripes
	}
	return k.lost(3).whole(3, 0, 2, newest, descBytes(k.p, d))
}

// oldFaults are new versions that are not above all that the object is made of.
func oldFaults(o told) []fault {
	var all []fault
	for _, version := range []int{newest, newest - 1, 1} {
		all = append(all, inCall("a version not above the descriptor's", "version", api.ErrParams, func(c *call) { c.version = version }))
	}
	for _, newer := range []int{newest + 1, newest + 2, most} {
		for _, i := range []int{0, len(o.stripes) - 1} {
			all = append(all, inImage("a version not above a stripe's", "newer", api.ErrParams, func(k known, o told) known { return againOf(k, o, -1, i, newer) }))
		}
		for i := range o.leaves {
			all = append(all, inImage("a version not above a leaf's", "leaf", api.ErrParams, func(k known, o told) known { return againOf(k, o, i, -1, newer) }))
		}
	}
	return all
}

// fullFaults are too few free rows, and lostFaults stripes that change and can not be read.
func fullFaults() []fault {
	return []fault{
		inCall("no free rows", "free", api.ErrFull, func(c *call) { c.free = nil }),
		inCall("one free row too few", "free", api.ErrFull, func(c *call) { c.free = c.free[:len(c.free)-1] }),
	}
}

func lostFaults(o told) []fault {
	var all []fault
	for i := range o.stripes {
		all = append(all,
			inImage("a stripe that is not there", "stripe", api.ErrLost, func(k known, o told) known { return k.lost(o.stripes[i].Row) }),
			inImage("a stripe of another version", "stripe", api.ErrLost, func(k known, o told) known {
				return k.lost(o.stripes[i].Row).whole(o.stripes[i].Row, 0, 1, 4, o.data[i])
			}),
			inImage("a stripe with one cell too few", "stripe", api.ErrLost, func(k known, o told) known {
				return k.lost(o.stripes[i].Row).having(o.stripes[i].Row, 1, 1, same(k.p, o.stripes[i].Version), o.data[i], upTo(1, k.p.K)...)
			}),
		)
	}
	return all
}

// subjects are an image with an object of a depth in the row 3, and a call that gives it two stripes more, changes all that it has already, and takes just the rows that are free.
func subjects(p api.Params, depth int) (k known, o told, calls []call) {
	m := measured(p)
	p.Rows = max(p.Rows, m.direct+10)
	length := 2*m.width - 3
	if depth == 1 {
		length = (m.direct+1)*m.width - 3
	}
	its := standing(p, 3, length, 6)
	o, _ = its.told(3)
	to := length + 2*m.width
	free := its.free[:needs(p, length, to)]
	return its.known, o, []call{
		set(3, free, newest+1, to, 1, some(to-1, 5)),
		whole(3, free, newest+1, some(to, 6)),
	}
}

// ordered are all faults of a call, in the lists in which they are told one behind the other.
func ordered(p api.Params, o told, c call) [][]fault {
	below, great, behind := setFaults(p)
	ofDesc, ofLeaves := objectFaults(p)
	if len(o.leaves) == 0 {
		ofLeaves = nil
	}
	numbers := append(numberFaults(p), below...)
	if c.whole {
		numbers, behind = numberFaults(p), nil
		great = []fault{
			inCall("more bytes than Most", "data", api.ErrTooBig, func(c *call) { c.data = make([]byte, measured(p).most+1) }),
			inCall("many more bytes than Most", "data", api.ErrTooBig, func(c *call) { c.data = make([]byte, 1<<17) }),
		}
	}
	return [][]fault{numbers, great, behind, ofDesc, ofLeaves, oldFaults(o), fullFaults(), lostFaults(o)}
}

// faulty makes a call with some faults, in their order, and tells whether the first one's error is told, with nothing beside it.
func faulty(t *testing.T, k known, o told, c call, all ...fault) {
	t.Helper()
	for _, its := range all {
		its.call(&c)
	}
	for i := range all { // what is wrong with the descriptor is done behind what is wrong with the versions that it names
		k = all[len(all)-1-i].image(k, o)
	}
	a := c.on(k.image())
	if a.err != all[0].err || a.l != nil || a.taken != nil || a.given != nil {
		t.Fatalf("%v: %v is %v, taken %v, given %v, %d, want nothing and %d: %v", k.p, c, places(a.l), a.taken, a.given, a.err, all[0].err, names(all))
	}
}

func names(all []fault) []string {
	var made []string
	for _, its := range all {
		made = append(made, its.what)
	}
	return made
}

// depths are those that objects of parameters can have.
func depths(p api.Params) []int {
	depth, _ := shaped(p, measured(p).most)
	return upTo(0, depth+1)
}

// Each thing that is wrong, alone.
func TestP19_1WrongInputs(t *testing.T) {
	each(t, few(), func(t *testing.T, p api.Params) {
		for _, depth := range depths(p) {
			k, o, calls := subjects(p, depth)
			for _, c := range calls {
				if a := answers(t, k, c); a.err != api.OK || len(a.taken) != len(c.free) || len(c.free) < 2 {
					t.Fatalf("%v: %v is refused, %d", p, c, a.err)
				}
				for _, list := range ordered(k.p, o, c) {
					for _, its := range list {
						faulty(t, k, o, c, its)
					}
				}
			}
		}
	})
}

// Of two things that are wrong the one that the document names first is told.
func TestP19_1TwoThingsWrong(t *testing.T) {
	each(t, few(), func(t *testing.T, p api.Params) {
		for _, depth := range depths(p) {
			k, o, calls := subjects(p, depth)
			for _, c := range calls {
				lists, number := ordered(k.p, o, c), 0
				for i, list := range lists {
					for _, first := range list {
						for _, later := range lists[i+1:] {
							for _, second := range later {
								if number++; first.where != second.where && sampled(k.p, number, 61) && number%7 == 0 {
									faulty(t, k, o, c, first, second)
								}
							}
						}
					}
				}
			}
		}
	})
}

// One of each sort, two of them put together, and all that come behind the first one.
func TestP19_1AllThingsWrong(t *testing.T) {
	each(t, few(), func(t *testing.T, p api.Params) {
		for _, depth := range depths(p) {
			k, o, calls := subjects(p, depth)
			for _, c := range calls {
				lists := slices.DeleteFunc(ordered(k.p, o, c), func(list []fault) bool { return len(list) == 0 })
				for i, list := range lists {
					all := []fault{list[i%len(list)]}
					for j, later := range lists[i+1:] {
						for turn := range later {
							its := later[(turn+i+j)%len(later)]
							if !slices.ContainsFunc(all, func(other fault) bool { return other.where == its.where }) {
								faulty(t, k, o, c, all[0], its)
								all = append(all, its)
								break
							}
						}
					}
					faulty(t, k, o, c, all...)
				}
			}
		}
	})
}

// refusesAll tells that both ways of changing an object are refused, with whatever else is wrong.
func refusesAll(t *testing.T, m api.Image, err api.Errno) {
	t.Helper()
	for _, c := range []call{
		set(3, []int{8, 9}, 6, 41, 0, nil), whole(3, []int{8, 9}, 6, []byte{1}),
		set(-1, []int{8, 9}, 6, 41, 0, nil), whole(math.MaxInt, nil, 6, nil),
		set(3, []int{9, 8}, 6, 41, 0, nil), whole(3, []int{-1}, 6, nil),
		set(3, nil, 0, 41, 0, nil), whole(3, nil, most+1, nil),
		set(3, nil, 6, -1, 0, nil), set(3, nil, 6, 32769, 0, nil), set(3, nil, 6, 1, 1, []byte{1}), set(3, nil, 6, math.MaxInt, math.MaxInt, nil), set(math.MinInt, nil, math.MinInt, math.MinInt, math.MinInt, nil),
		whole(3, nil, 6, make([]byte, 40000)), set(2, nil, 6, 40, 0, nil), whole(2, nil, 6, rising(40)),
	} {
		if a := c.on(m); a.err != err || a.l != nil || a.taken != nil || a.given != nil {
			t.Fatalf("%v: %v is %v, taken %v, given %v, %d, want nothing and %d", m.P, c, places(a.l), a.taken, a.given, a.err, err)
		}
	}
}

// Parameters are told ahead of all else, and then an image that may not be.
func TestP19_1WrongParams(t *testing.T) {
	right := example().image().Slots
	refusesAll(t, api.Image{}, api.ErrParams)
	refusesAll(t, api.Image{Slots: right}, api.ErrParams)
	wrongParams(func(p api.Params) {
		for _, slots := range [][][]byte{right, nil, right[:5], {{1}}} {
			refusesAll(t, api.Image{P: p, Slots: slots}, api.ErrParams)
		}
	})
}

func TestP19_1WrongImages(t *testing.T) {
	for _, p := range few() {
		its := standing(p, 3, 9, 5)
		right := its.image()
		slots, size := right.Slots, sizeOf(p)
		for _, l := range [][][]byte{nil, {}, slots[:len(slots)-1], slots[1:], slots[:len(slots)/2], append(slices.Clone(slots), nil), append(slices.Clone(slots), slots...), make([][]byte, len(slots)+2)} {
			refusesAll(t, api.Image{P: p, Slots: l}, api.ErrImage)
		}
		for _, at := range []int{0, 1, 2 * 3, 2*3 + 1, len(slots) / 2, len(slots) - 2, len(slots) - 1} {
			for _, bad := range [][]byte{{0}, {84, 50}, filled(size-1, 84), filled(size+1, 84), filled(2*size, 0), make([]byte, 1<<16+size)} {
				l := slices.Clone(slots)
				l[at] = bad
				refusesAll(t, api.Image{P: p, Slots: l}, api.ErrImage)
			}
		}
	}
}

func TestP19_3WrongInputs(t *testing.T) {
	wrongParams(func(p api.Params) {
		for _, of := range [][2]int{{0, 0}, {-1, 5}, {5, -1}, {0, 40000}, {math.MaxInt, math.MinInt}} {
			if n, err := Need(p, of[0], of[1]); n != 0 || err != api.ErrParams {
				t.Fatalf("%v: Need from %d to %d is %d, %d", p, of[0], of[1], n, err)
			}
		}
	})
	every(func(p api.Params) {
		top := measured(p).most
		for _, below := range []int{-1, -top, -1 << 32, math.MinInt, math.MinInt + 1} {
			for _, other := range []int{0, 1, top, top + 1, -1, math.MaxInt, math.MinInt} {
				wrongNeed(t, p, below, other, api.ErrParams)
			}
		}
		for _, great := range []int{top + 1, top + 2, 1 << 31, 1<<32 + 1, 1 << 62, math.MaxInt - 1, math.MaxInt} {
			for _, other := range []int{0, 1, top, top + 1, math.MaxInt} {
				wrongNeed(t, p, great, other, api.ErrTooBig)
			}
		}
	})
}

// wrongNeed tells that Need is refused, whichever of both lengths is the wrong one.
func wrongNeed(t *testing.T, p api.Params, one, other int, want api.Errno) {
	t.Helper()
	for _, of := range [][2]int{{one, other}, {other, one}} {
		if n, err := Need(p, of[0], of[1]); n != 0 || err != want {
			t.Fatalf("%v: Need from %d to %d is %d, %d, want %d", p, of[0], of[1], n, err, want)
		}
	}
}

// A stripe that can't be read is in the way only where it changes, by Whole where the object goes on to have it.
func TestP19_1LostStripes(t *testing.T) {
	each(t, few(), func(t *testing.T, p api.Params) {
		width := measured(p).width
		p.Rows = max(12, min(p.Rows, 24))
		for depth, length := range []int{4*width - 5, (measured(p).direct+1)*width - 5} {
			if !slices.Contains(depths(p), depth) || !fits(p, length+2*width) {
				continue
			}
			its := standing(p, 3, length, depth)
			o, _ := its.told(3)
			for i, at := range o.stripes {
				k := its.known.lost(at.Row)
				for j := range o.stripes {
					from, to := j*width, min(length, j*width+width)
					want := api.OK
					if i == j {
						want = api.ErrLost
					}
					for _, of := range []reach{{from, 1}, {to - 1, 1}, {from, to - from}, {min(from+p.Cell, to-1), 1}} {
						refuses(t, k, its.toSet(length, of.off, some(of.many, 3)), want)
						refuses(t, k, its.toSet(length+width, of.off, some(of.many, 3)), want)
					}
					refuses(t, k, its.toSet(to, 0, nil), api.OK) // at a stripe's edge nothing becomes 0
					refuses(t, k, its.toSet(to-1, 0, nil), want)
					wantWhole := api.OK
					if i <= j {
						wantWhole = api.ErrLost
					}
					refuses(t, k, its.toWhole(its.bytes[:to]), wantWhole)
					refuses(t, k, its.toWhole(some(to, 7)), wantWhole)
				}
				refuses(t, k, its.toSet(length, 5, nil), api.OK)
				refuses(t, k, its.toSet(0, 0, nil), api.OK)
				refuses(t, k, its.toWhole(nil), api.OK)
				refuses(t, k, its.toSet(length+1, 0, nil), api.OK)
				refuses(t, k, its.toSet(length+width, length+width-1, []byte{1}), api.OK)
				refuses(t, k, its.toWhole(append(slices.Clone(its.bytes), make([]byte, width)...)), api.ErrLost)
			}
		}
	})
}

// Where the bytes can't be told to stay, as a stripe is lost, the version is looked at all the same, and ahead of it.
func TestP19_2LostAndAnOldVersion(t *testing.T) {
	for i, p := range few() {
		its := standing(p, 3, measured(p).width+3, i)
		o, _ := its.told(3)
		for _, at := range o.stripes {
			k := its.known.lost(at.Row)
			refuses(t, k, whole(3, nil, newest, its.bytes), api.ErrParams)
			refuses(t, k, whole(3, nil, newest+1, its.bytes), api.ErrLost)
			refuses(t, its.known, whole(3, nil, newest, its.bytes), api.OK)
		}
	}
}

// Where nothing is written no version is too old, and no free row is needed; but what may not be may not be.
func TestP19_1NothingIsWritten(t *testing.T) {
	for i, p := range few() {
		for _, length := range shallowAndDeep(p) {
			its := standing(p, 3, length, i)
			for _, version := range []int{1, newest, newest + 1, most} {
				for _, off := range []int{0, length / 2, length} {
					if a := answers(t, its.known, set(3, nil, version, length, off, nil)); a.err != api.OK || len(a.l)+len(a.taken)+len(a.given) > 0 {
						t.Fatalf("%v: Set of nothing is %v, %d", p, places(a.l), a.err)
					}
				}
				if a := answers(t, its.known, whole(3, nil, version, its.bytes)); a.err != api.OK || len(a.l)+len(a.taken)+len(a.given) > 0 {
					t.Fatalf("%v: Whole of the same is %v, %d", p, places(a.l), a.err)
				}
			}
			refuses(t, its.known, set(3, nil, 0, length, 0, nil), api.ErrParams)
			refuses(t, its.known, set(3, nil, most+1, length, 0, nil), api.ErrParams)
			refuses(t, its.known, set(3, []int{1, 1}, 1, length, 0, nil), api.ErrParams)
			refuses(t, its.known, set(3, nil, 1, length, length+1, nil), api.ErrParams)
			refuses(t, its.known, whole(3, nil, 0, its.bytes), api.ErrParams)
			refuses(t, its.known, whole(3, []int{p.Rows}, 1, its.bytes), api.ErrParams)
		}
	}
}
