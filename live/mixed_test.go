package live

import (
	"testing"

	"twoslot/api"
)

// mixed is an image with a directory of which some cells are changed, some rows are lost, and some bytes of stripes are other ones.
func mixed(p api.Params, seed int) known {
	throw := dice(seed + 1000*p.K + 100*p.R)
	its := standing(p, seed+3)
	if seed%3 == 0 {
		its = directory(p, seed)
	}
	k := its.known
	rows := rowsOf(p, its.stripes())
	for range throw.below(2 * (p.K + p.R)) {
		k = k.changed(one(&throw, rows), func(r line) {
			drive := throw.below(len(r))
			r[drive][throw.below(2)] = mixedContent(p, &throw, drive)
		})
	}
	switch throw.below(8) {
	case 0:
		k = k.lost(one(&throw, rows))
	case 1, 2:
		k = k.without(throw.below(p.K + p.R))
	case 3, 4:
		lives := its.stripes()
		live := one(&throw, lives[:min(len(lives), 12)])
		if data := k.rows[live.Row].data(p, live.Kind, live.Version); data != nil {
			data[throw.below(min(len(data), 12))] = one(&throw, []byte{0, 1, 2, 3, 97, 255})
			k = k.whole(live.Row, 0, live.Kind, live.Version, data)
		}
	}
	return k
}

// mixedContent is what a slot gets: nothing, no slot, one of another drive, of either kind, of several versions, with bytes that fit to no other cell.
func mixedContent(p api.Params, throw *dice, drive int) content {
	version, kind := one(throw, []int{1, 9, 19, 30, newest, most}), uint8(1+throw.below(2))
	data := some(p.Cell, 1+throw.below(1000))
	switch throw.below(8) {
	case 0, 1, 2:
		return content{}
	case 3:
		return one(throw, noSlots(p, kind, drive))
	case 4:
		return contentOf(slotOf(kind, throw.below(p.K+p.R), same(p, version), data))
	case 5, 6:
		return contentOf(slotOf(kind, drive, with(same(p, version), one(throw, []int{1, 20, 40}), throw.below(p.K+p.R)), data))
	}
	return contentOf(slotOf(kind, drive, same(p, version), data))
}

// mixedImages calls visit with many of them.
func mixedImages(many int, visit func(k known)) {
	for _, p := range few() {
		p.Rows = max(12, min(p.Rows, 24)) // so that what is changed meets what is asked for
		for seed := range many {
			visit(mixed(p, seed))
		}
	}
}

// What the document's sentences make of images of any kind.
func TestP23_1To3MixedImages(t *testing.T) {
	t.Parallel()
	ends, wholes := map[api.Errno]int{}, map[bool]int{}
	mixedImages(90, func(k known) {
		check(t, k, "a", "b", "c", "d", "e", "f", "g", "ab", "object")
		_, err := k.wantStripes()
		ends[err]++
		if is, err := k.wantWhole(); err == api.OK {
			wholes[is]++
		}
	})
	if ends[api.OK] < 150 || ends[api.ErrLost] < 60 || ends[150] < 10 || ends[220] < 10 || wholes[true] < 30 || wholes[false] < 60 { // else the images above would tell little
		t.Fatalf("Stripes end in %v, whole are %v", ends, wholes)
	}
}
