package edit

import (
	"testing"

	"twoslot/api"
)

// mixed is an image with objects in its first rows, whose leaves and stripes stand in the others, also several in one; some cells of it are changed.
func mixed(p api.Params, throw *dice) known {
	k := blank(p)
	for row := 4; row < p.Rows; row++ {
		k = k.whole(row, 0, 1, 3, some(p.K*p.Cell, 1+throw.below(1000))).whole(row, 1, 1, 5, some(p.K*p.Cell, 1+throw.below(1000)))
	}
	for row := range 4 {
		length := one(throw, lengths(p))
		if throw.below(2) == 0 {
			length = throw.below(measured(p).direct * measured(p).width / 2) // few stripes, which more often all are there
		}
		k = k.mixedObject(throw, row, min(length, measured(p).most))
	}
	for range throw.below(2 * (p.K + p.R)) {
		k = k.changed(throw.below(p.Rows), func(r line) {
			drive := throw.below(len(r))
			r[drive][throw.below(2)] = mixedContent(p, throw, drive)
		})
	}
	return k
}

// mixedRefs are refs most of which name stripes that are there.
func mixedRefs(p api.Params, throw *dice, many int) []api.Ref {
	refs := make([]api.Ref, many)
	for i := range refs {
		refs[i] = api.Ref{Row: 4 + throw.below(p.Rows-4), Version: one(throw, []int{3, 5})}
		if throw.below(60) == 0 {
			refs[i] = api.Ref{Row: throw.below(p.Rows), Version: one(throw, []int{1, 3, 4, 5, most})}
		}
	}
	return refs
}

// mixedObject is the image with a descriptor in a row, whose leaves were written then, over stripes and over leaves of others; some hold too few refs, or too many.
func (k known) mixedObject(throw *dice, row, length int) known {
	m := measured(k.p)
	depth, many := shaped(k.p, length)
	stripes := needed(length, m.width)
	d := api.Desc{Length: length, Depth: depth, Refs: mixedRefs(k.p, throw, many)}
	for i := range many * depth {
		d.Refs[i] = api.Ref{Row: 4 + (row+i)%(k.p.Rows-4), Version: one(throw, []int{3, 5})}
		held := min(m.leaf, stripes-i*m.leaf)
		if throw.below(20) == 0 {
			held = 1 + throw.below(m.leaf)
		}
		data := leafBytes(k.p, mixedRefs(k.p, throw, held))
		if throw.below(40) == 0 {
			data[throw.below(len(data))]++
		}
		k = k.whole(d.Refs[i].Row, d.Refs[i].Version/5, 1, d.Refs[i].Version, data)
		if throw.below(30) == 0 {
			d.Refs[i].Version = one(throw, []int{3, 4, 5})
		}
	}
	data := descBytes(k.p, d)
	if throw.below(12) == 0 {
		data[throw.below(len(data))] += byte(1 + throw.below(255))
	}
	return k.whole(row, throw.below(2), 2, one(throw, []int{1, 5, 5, 9}), data)
}

// mixedContent is what a slot gets: nothing, no slot, one of another drive, of either kind, of several versions, with bytes that fit to no other cell.
func mixedContent(p api.Params, throw *dice, drive int) content {
	version, kind := one(throw, []int{1, 3, 5, 8, most}), uint8(1+throw.below(2))
	data := some(p.Cell, 1+throw.below(1000))
	switch throw.below(8) {
	case 0, 1, 2:
		return content{}
	case 3:
		return one(throw, noSlots(p, kind, drive))
	case 4:
		return contentOf(slotOf(kind, throw.below(p.K+p.R), same(p, version), data))
	case 5, 6:
		return contentOf(slotOf(kind, drive, with(same(p, version), one(throw, []int{1, 3, 5}), throw.below(p.K+p.R)), data))
	}
	return contentOf(slotOf(kind, drive, same(p, version), data))
}

// mixedCall is some call on an object of a mixed image; a few are wrong.
func (k known) mixedCall(throw *dice) call {
	c := call{whole: throw.below(3) == 0, row: throw.below(4), version: one(throw, []int{6, 7, 10, 10, most, 5, 0})}
	for row := range k.p.Rows {
		if throw.below(3) > 0 {
			c.free = append(c.free, row)
		}
	}
	o, _ := k.told(c.row)
	c.length = one(throw, append(lengthsFrom(k.p, o.d.Length), o.d.Length, o.d.Length))
	if c.whole {
		c.data = one(throw, alike(k.p, o.bytes(), c.length, throw.below(100)))
		return c
	}
	at := one(throw, reaches(k.p, o.d.Length, c.length))
	c.off, c.data = at.off, some(at.many, throw.below(100))
	return c
}

// What the document's sentences make of images that no store left: objects that share rows, and other bytes than 0 behind their lengths.
func TestP19_1And2MixedImages(t *testing.T) {
	ends := make(chan [2]api.Errno, 100000)
	t.Run("all", func(t *testing.T) {
		each(t, few(), func(t *testing.T, p api.Params) {
			p.Rows = min(p.Rows, 20) // so that what is changed meets what is asked for
			for seed := range 40 {
				throw := dice(seed + 1000*p.K + 100*p.R)
				k := mixed(p, &throw)
				for range 12 {
					c := k.mixedCall(&throw)
					kind := api.Errno(0)
					if c.whole {
						kind = 1
					}
					ends <- [2]api.Errno{kind, answers(t, k, c).err}
				}
			}
		})
	})
	close(ends)
	found := map[[2]api.Errno]int{}
	for end := range ends {
		found[end]++
	}
	for kind := range api.Errno(2) {
		for _, err := range []api.Errno{api.OK, api.ErrLost, api.ErrParams, api.ErrFull, api.ErrDesc} {
			if found[[2]api.Errno{kind, err}] < 10 { // else the images above would tell little
				t.Fatalf("the calls end in %v", found)
			}
		}
	}
	t.Log(found)
}

// In an image that no store left other bytes than 0 stand behind the length: where the object gets longer and they are written, they become 0 all the same.
func TestP19_5BytesBehindTheLength(t *testing.T) {
	for _, p := range few() {
		width := measured(p).width
		for _, length := range []int{1, p.Cell, width - 1, width + 1} {
			if length > width && measured(p).direct < 2 {
				continue
			}
			data := filled(2*width, 200)
			copy(data, some(length, 6))
			refs := []api.Ref{{Row: 5, Version: 4}, {Row: 6, Version: 3}}[:needed(length, width)]
			k := blank(p).whole(5, 0, 1, 4, data[:width]).whole(6, 1, 1, 3, data[width:])
			k = k.whole(7, 0, 2, 5, descBytes(p, api.Desc{Length: length, Refs: refs}))
			to := needed(length, width) * width
			for _, c := range []call{
				whole(7, nil, 6, append(some(length, 6), make([]byte, to-length)...)),
				whole(7, nil, 6, some(length/2, 6)),
				set(7, nil, 6, to, 0, some(to, 4)),
				set(7, nil, 6, min(to, length+2), length+1-max(0, length+2-to), []byte{9}),
				set(7, nil, 6, length-1, 0, nil),
			} {
				a := answers(t, k, c)
				m := k.behind(a.l...).image()
				reads(t, m, 7, c.makes(data[:length]), c)
			}
		}
	}
}
