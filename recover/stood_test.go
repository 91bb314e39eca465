package recover

import (
	"bytes"
	"slices"

	"twoslot/api"
)

// The versions of the images: what counts has one from elder to newest, without them.
const (
	elder  = 19 // of descriptors that were replaced
	newest = 60 // of descriptors that were begun
)

// stood is an image with a directory: what was put into it.
type stood struct {
	known
	throw   *dice
	buckets []int
	entries [][]api.Entry
	lives   map[int][]api.Live // by rows of descriptors
	free    []int
}

// standing is an image with a directory as a crash may leave it, by seeds unlike: no row is in use twice; its rows are in no order; some descriptors are not held by all drives.
func standing(p api.Params, seed int) stood {
	its := whole(p, seed)
	for _, row := range its.descs() {
		its.known = its.half(row)
	}
	return its
}

// whole is such an image all of whose descriptors are held by all drives, with nothing else in their rows.
func whole(p api.Params, seed int) stood {
	its := begun(p, seed)
	if seed%5 > 0 { // else the store is empty
		for range its.throw.below(40) {
			its.enter(its.name())
		}
	}
	return its.done()
}

// begun has its buckets alone, without their descriptors.
func begun(p api.Params, seed int) stood {
	throw := dice(1000*seed + p.K)
	its := stood{known: blank(p), throw: &throw, entries: make([][]api.Entry, buckets), lives: map[int][]api.Live{}}
	its.free = upTo(1, p.Rows)
	for i := range its.free {
		j := i + throw.below(len(its.free)-i)
		its.free[i], its.free[j] = its.free[j], its.free[i]
	}
	for range buckets {
		its.buckets = append(its.buckets, its.take())
	}
	return its
}

// take is a free row, from now on in use.
func (its *stood) take() int {
	row := its.free[0]
	its.free = its.free[1:]
	return row
}

// name is some name.
func (its *stood) name() string {
	if its.throw.below(2) == 0 {
		return one(its.throw, plain())
	}
	return string(some(1+its.throw.below(longest), its.throw.below(1<<20)))
}

// takes is how many rows an object of a length has.
func takes(p api.Params, length int) int {
	depth, many := shaped(p, length)
	return 1 + depth*many + needed(length, measured(p).width)
}

// enter makes an entry of a name and an object of some length, if there are rows for that, for all buckets and for the root's stripe.
func (its *stood) enter(name string) {
	bucket := bucketOf(name)
	was := its.entries[bucket]
	its.entries[bucket] = put(was, entry(name, its.free[0]))
	length := one(its.throw, lengths(its.p))
	if its.throw.below(3) > 0 {
		length = its.throw.below(2 * measured(its.p).width)
	}
	all := takes(its.p, length) + 1 // with the root's stripe
	for _, l := range its.entries {
		all += takes(its.p, len(asBytes(l))) - 1
	}
	if len(was) == len(its.entries[bucket]) || all > len(its.free) {
		its.entries[bucket] = was
		return
	}
	its.object(its.take(), some(length, its.throw.below(1<<20)))
}

// done puts the directory in, and leaves something in the free rows.
func (its stood) done() stood {
	its.object(0, rowBytes(its.buckets...))
	for bucket, row := range its.buckets {
		its.object(row, asBytes(its.entries[bucket]))
	}
	for _, free := range its.free {
		its.known = its.leftOver(free, its.throw)
	}
	return its
}

// object puts an object into a row, its stripes and leaves into free ones.
func (its *stood) object(row int, data []byte) {
	p, width := its.p, measured(its.p).width
	take := func(data []byte) api.Ref {
		at := api.Ref{Row: its.take(), Version: elder + 1 + its.throw.below(newest-elder-1)}
		its.known = its.known.storedStripe(at, data, its.throw)
		return at
	}
	var leaves, stripes []api.Ref
	for part := range slices.Chunk(data, width) {
		stripes = append(stripes, take(append(bytes.Clone(part), make([]byte, width-len(part))...)))
	}
	d := api.Desc{Length: len(data), Refs: stripes}
	if depth, _ := shaped(p, len(data)); depth == 1 {
		for held := range slices.Chunk(stripes, measured(p).leaf) {
			leaves = append(leaves, take(leafBytes(p, held)))
		}
		d.Depth, d.Refs = 1, leaves
	}
	version := elder + 1 + its.throw.below(newest-elder-1)
	its.known = its.whole(row, its.throw.below(2), 2, version, descBytes(p, d))
	its.lives[row] = livesOf(row, version, leaves, stripes)
}

// livesOf is all that is live of an object.
func livesOf(row, version int, leaves, stripes []api.Ref) []api.Live {
	all := []api.Live{{Row: row, Kind: 2, Version: version}}
	for _, refs := range [][]api.Ref{leaves, stripes} {
		for _, at := range refs {
			all = append(all, api.Live{Row: at.Row, Kind: 1, Version: at.Version})
		}
	}
	return all
}

// descs are the rows of all descriptors, in their order.
func (its stood) descs() []int {
	all := append([]int{0}, its.buckets...)
	for _, l := range its.entries {
		for _, x := range l {
			all = append(all, x.Row)
		}
	}
	return all
}

// stripes are what is live.
func (its stood) stripes() []api.Live {
	var all []api.Live
	for _, row := range its.descs() {
		all = append(all, its.lives[row]...)
	}
	return all
}

// winning is the number of the slot in which a drive has the winner of a row; both are those of a row in which nothing was changed yet.
func (its stood) winning(row, drive int) int {
	return its.rows[row].held(2, drive, its.lives[row][0].Version)
}

// beside is an elder version of a descriptor, or one that was begun: a slot of it.
func beside(p api.Params, drive, version int) content {
	return contentOf(slotOf(2, drive, same(p, version), cellsOf(p, descBytes(p, api.Desc{}))[drive]))
}

// half is the image in which a descriptor that all drives hold is held by K of them, or more, and by the others not yet; beside it stand elder versions, and such as were begun.
func (its stood) half(row int) known {
	p, throw := its.p, its.throw
	n := p.K + p.R
	order := upTo(0, n) // those that have it already first: by drives, as it is written, or in any order
	if throw.below(2) == 0 {
		for i := range order {
			j := i + throw.below(n-i)
			order[i], order[j] = order[j], order[i]
		}
	}
	many := one(throw, []int{p.K, min(p.K+1, n), n - min(p.R, 1), n, n, p.K + throw.below(p.R+1)})
	sort, younger := throw.below(6), throw.below(p.K)
	return its.changed(row, func(r line) {
		for i, drive := range order {
			number := its.winning(row, drive)
			other := content{}
			switch {
			case sort < 3 || sort == 3 && throw.below(2) == 0: // the one ahead of it, on all drives or on some
				other = beside(p, drive, elder)
			case sort == 4 && i < younger: // the next one, only begun
				other = beside(p, drive, newest)
			case sort == 5:
				other = one(throw, noSlots(p, 2, drive))
			}
			r[drive][1-number] = other
			if i >= many {
				r[drive][number] = one(throw, []content{{}, {}, {}, beside(p, drive, elder-1), beside(p, (drive+1)%n, elder), contentOf(slotOf(1, drive, same(p, 40), some(p.Cell, drive))), one(throw, noSlots(p, 2, drive))})
			}
		}
	})
}

// storedStripe is the image with a stripe as an update left it, or as it was written whole, beside an older version or beside nothing.
func (k known) storedStripe(at api.Ref, data []byte, throw *dice) known {
	number := throw.below(2)
	switch throw.below(3) {
	case 0:
		return k.whole(at.Row, number, 1, at.Version, data)
	case 1:
		k = k.having(at.Row, 1-number, 1, same(k.p, 7), some(len(data), throw.below(100)), someDrives(k.p, throw)...)
		return k.whole(at.Row, number, 1, at.Version, data)
	}
	cell, was := throw.below(k.p.K), bytes.Clone(data) // of which one cell was another one
	copy(was[cell*k.p.Cell:(cell+1)*k.p.Cell], some(k.p.Cell, throw.below(100)))
	changed := append([]int{cell}, upTo(k.p.K, k.p.K+k.p.R)...)
	k = k.whole(at.Row, number, 1, 9, was)
	return k.having(at.Row, 1-number, 1, with(same(k.p, 9), at.Version, changed...), data, changed...)
}

// leftOver is the image with what may stand in a free row: nothing, an old stripe, a descriptor, some cells of either, no slots.
func (k known) leftOver(row int, throw *dice) known {
	data := some(measured(k.p).width, throw.below(100))
	switch throw.below(5) {
	case 0:
		return k.whole(row, throw.below(2), 1, 1+throw.below(newest), data)
	case 1:
		return k.whole(row, 0, 1, 3, data).having(row, 1, 2, same(k.p, 5), descBytes(k.p, api.Desc{}), someDrives(k.p, throw)...)
	case 2:
		return k.having(row, 1, 1, same(k.p, 8), data, someDrives(k.p, throw)...).having(row, 0, 1, same(k.p, 11), data, someDrives(k.p, throw)...)
	case 3:
		return k.changed(row, func(r line) {
			for drive := range r {
				r[drive][throw.below(2)] = one(throw, noSlots(k.p, 1, drive))
			}
		})
	}
	return k
}

// someDrives are some of all drives, perhaps none.
func someDrives(p api.Params, throw *dice) []int {
	return slices.DeleteFunc(upTo(0, p.K+p.R), func(int) bool { return throw.below(2) == 0 })
}
