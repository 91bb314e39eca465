package object

import "twoslot/api"

// mixed is an image with objects in its first rows, whose leaves and stripes stand in the others; some cells of it are changed.
func mixed(p api.Params, throw *dice) known {
	k := blank(p)
	for row := 4; row < p.Rows; row++ {
		k = k.whole(row, 0, 1, 3, some(p.K*p.Cell, 1+throw.below(1000))).whole(row, 1, 1, 5, some(p.K*p.Cell, 1+throw.below(1000)))
	}
	for row := range 4 {
		length := one(throw, lengths(p))
		if throw.below(2) == 0 {
			length = throw.below(measured(p).direct * measured(p).width / 2) // few stripes, which more often all are there
		}
		k = k.mixedObject(throw, row, min(length, measured(p).most))
	}
	for range throw.below(2 * (p.K + p.R)) {
		k = k.changed(throw.below(p.Rows), func(r line) {
			drive := throw.below(len(r))
			r[drive][throw.below(2)] = mixedContent(p, throw, drive)
		})
	}
	return k
}

// mixedRefs are refs most of which name stripes that are there.
func mixedRefs(p api.Params, throw *dice, many int) []api.Ref {
	refs := make([]api.Ref, many)
	for i := range refs {
		refs[i] = api.Ref{Row: 4 + throw.below(p.Rows-4), Version: one(throw, []int{3, 5})}
		if throw.below(60) == 0 {
			refs[i] = api.Ref{Row: throw.below(p.Rows), Version: one(throw, []int{1, 3, 4, 5, most})}
		}
	}
	return refs
}

// mixedObject is the image with a descriptor in a row, whose leaves were written then, over stripes and over leaves of others; some hold too few refs, or too many.
func (k known) mixedObject(throw *dice, row, length int) known {
	m := measured(k.p)
	depth, many := shaped(k.p, length)
	stripes := needed(length, m.width)
	d := api.Desc{Length: length, Depth: depth, Refs: mixedRefs(k.p, throw, many)}
	for i := range many * depth {
		d.Refs[i] = api.Ref{Row: 4 + (row+i)%(k.p.Rows-4), Version: one(throw, []int{3, 5})}
		held := min(m.leaf, stripes-i*m.leaf)
		if throw.below(20) == 0 {
			held = 1 + throw.below(m.leaf)
		}
		data := leafBytes(k.p, mixedRefs(k.p, throw, held))
		if throw.below(40) == 0 {
			data[throw.below(len(data))]++
		}
		k = k.whole(d.Refs[i].Row, d.Refs[i].Version/5, 1, d.Refs[i].Version, data)
		if throw.below(30) == 0 {
			d.Refs[i].Version = one(throw, []int{3, 4, 5})
		}
	}
	data := descBytes(k.p, d)
	if throw.below(12) == 0 {
		data[throw.below(len(data))] += byte(1 + throw.below(255))
	}
	return k.whole(row, throw.below(2), 2, one(throw, []int{1, 5, most}), data)
}

// mixedContent is what a slot gets: nothing, no slot, one of another drive, of either kind, of several versions, with bytes that fit to no other cell.
func mixedContent(p api.Params, throw *dice, drive int) content {
	version, kind := one(throw, []int{1, 3, 5, 8, most}), uint8(1+throw.below(2))
	data := some(p.Cell, 1+throw.below(1000))
	switch throw.below(8) {
	case 0, 1, 2:
		return content{}
	case 3:
		return one(throw, noSlots(p, kind, drive))
	case 4:
		return contentOf(slotOf(kind, throw.below(p.K+p.R), same(p, version), data))
	case 5, 6:
		return contentOf(slotOf(kind, drive, with(same(p, version), one(throw, []int{1, 3, 5}), throw.below(p.K+p.R)), data))
	}
	return contentOf(slotOf(kind, drive, same(p, version), data))
}

// mixedImages calls visit with many of them.
func mixedImages(many int, visit func(k known)) {
	for _, p := range few() {
		if p.Rows > 20 {
			p.Rows = 20 // so that what is changed meets what is asked for
		}
		for seed := range many {
			throw := dice(seed + 1000*p.K + 100*p.R)
			visit(mixed(p, &throw))
		}
	}
}
