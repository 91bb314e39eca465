package recover

import (
	"testing"

	"twoslot/api"
)

// mixed is an image with a directory of which some cells are changed, some rows are lost, and some bytes of stripes are other ones.
func mixed(p api.Params, seed int) known {
	throw := dice(seed + 1000*p.K + 100*p.R)
	its := standing(p, seed+3)
	if seed%3 == 0 {
		its = crashed(p, seed)
	}
	k := its.known
	var rows []int
	for _, live := range its.stripes() {
		if live.Kind == 2 || throw.below(3) == 0 {
			rows = append(rows, live.Row)
		}
	}
	for range throw.below(2 * (p.K + p.R)) {
		k = k.changed(one(&throw, rows), func(r line) {
			drive := throw.below(len(r))
			r[drive][throw.below(2)] = mixedContent(p, &throw, drive)
		})
	}
	switch throw.below(8) {
	case 0:
		k = k.lost(one(&throw, rows))
	case 1, 2:
		k = k.without(throw.below(p.K + p.R))
	case 3, 4:
		lives := its.stripes()
		live := one(&throw, lives[:min(len(lives), 12)])
		if data := k.rows[live.Row].data(p, live.Kind, live.Version); data != nil {
			data[throw.below(min(len(data), 12))] = one(&throw, []byte{0, 1, 2, 3, 97, 255})
			k = k.whole(live.Row, 0, live.Kind, live.Version, data)
		}
	}
	return k
}

// mixedContent is what a slot gets: nothing, no slot, one of another drive, of either kind, of several versions, with bytes that fit to no other cell.
func mixedContent(p api.Params, throw *dice, drive int) content {
	version, kind := one(throw, []int{1, 9, elder, 30, newest, most}), uint8(1+throw.below(2))
	data := some(p.Cell, 1+throw.below(1000))
	switch throw.below(8) {
	case 0, 1, 2:
		return content{}
	case 3:
		return one(throw, noSlots(p, kind, drive))
	case 4:
		return contentOf(slotOf(kind, throw.below(p.K+p.R), same(p, version), data))
	case 5, 6:
		return contentOf(slotOf(kind, drive, with(same(p, version), one(throw, []int{1, 20, 40}), throw.below(p.K+p.R)), data))
	}
	return contentOf(slotOf(kind, drive, same(p, version), data))
}

// mixedImages calls visit with many of them.
func mixedImages(many int, visit func(k known)) {
	for _, p := range few() {
		p.Rows = max(12, min(p.Rows, 24)) // so that what is changed meets what is asked for
		for seed := range many {
			visit(mixed(p, seed))
		}
	}
}

// What the document's sentences make of images of any kind.
func TestP24_1And2MixedImages(t *testing.T) {
	t.Parallel()
	ends, somes := map[api.Errno]int{}, 0
	mixedImages(90, func(k known) {
		if len(check(t, k)) > 0 {
			somes++
		}
		_, err := k.wantPlan()
		ends[err]++
	})
	if ends[api.OK] < 150 || ends[api.ErrLost] < 60 || ends[150] < 10 || ends[220] < 10 || somes < 120 { // else the images above would tell little
		t.Fatalf("the calls end in %v, %d of them have something to be finished", ends, somes)
	}
}

// The winner of a row may be told by another slot first, whose vector has other versions of some cells: the vector of the raw writes is that one's.
func TestP24_1AnotherVectorOfTheWinner(t *testing.T) {
	t.Parallel()
	told := 0
	for _, p := range few() {
		if p.R == 0 {
			continue
		}
		p.Rows = min(p.Rows, 13)
		n := p.K + p.R
		its := begun(p, 2).done()
		for _, row := range []int{0, its.buckets[1]} {
			winner := its.lives[row][0].Version
			for first := range n {
				for cell := range n {
					if cell == first || n > 6 && (cell+5*first)%9 > 0 {
						continue
					}
					for number := range 2 {
						data := its.rows[row].data(p, 2, winner)
						k := its.having(row, number, 2, with(same(p, winner), elder, cell), data, first)
						if its.winning(row, first) == number && n-1 < p.K {
							continue
						}
						if puts := check(t, k, "the row", row, "the drive", first, "of the cell", cell); len(puts) > 0 {
							told++
						}
						check(t, k.changed(row, func(r line) { r[cell][its.winning(row, cell)] = beside(p, cell, elder) }))
						check(t, k.changed(row, func(r line) { r[n-1] = [2]content{} }))
					}
				}
			}
		}
	}
	if told < 40 {
		t.Fatalf("only %d images have something to be finished", told)
	}
}
