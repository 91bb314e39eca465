package commit

import "twoslot/api"

// mixed is a row of slots of all sorts: its versions are few, so that some are held by K drives, some by fewer.
func mixed(p api.Params, throw *dice) known {
	all := upTo(0, p.K+p.R)
	often, next := one(throw, []int{1, 3, 5, 7, most}), one(throw, []int{1, 3, 5, 7, most})
	r := blank(p).holding(p, 0, often, all...).holding(p, 1, next, all...)
	for drive := range r {
		if throw.below(2) == 0 {
			r[drive][0], r[drive][1] = r[drive][1], r[drive][0]
		}
		for number := range 2 {
			if throw.below(4) == 0 {
				r[drive][number] = mixedContent(p, throw, drive)
			}
		}
	}
	return r
}

// mixedContent is one of them: blank, no slot, of another drive, of the other kind, with several versions, with cells that do not fit to the others, with one that does.
func mixedContent(p api.Params, throw *dice, drive int) content {
	n, version := p.K+p.R, one(throw, []int{1, 3, 5, 6, 7, 8, 9, most})
	cell := cellsOf(p, wantBytes(p, byVersion(p, version)))[drive]
	switch throw.below(14) {
	case 0, 1:
		return content{}
	case 2:
		return one(throw, noSlots(p, drive))
	case 3:
		return contentOf(slotOf(2, throw.below(n), same(p, version), cell))
	case 4, 5:
		return contentOf(slotOf(1, drive, same(p, version), cell))
	case 6, 7:
		return contentOf(slotOf(2, drive, with(same(p, version), one(throw, []int{1, 3, 5, 7}), throw.below(n)), cell))
	case 8:
		return contentOf(slotOf(2, drive, same(p, version), some(p.Cell, 1+throw.below(1000))))
	}
	return contentOf(slotOf(2, drive, same(p, version), cell))
}

// mixedRows calls visit with many of them.
func mixedRows(many int, visit func(p api.Params, r known, throw *dice)) {
	for _, p := range few() {
		for seed := range many {
			throw := dice(seed + 1000*p.K + 100*p.R)
			visit(p, mixed(p, &throw), &throw)
		}
	}
}

// smallRows calls visit with every row of some parameters whose slots hold some versions of a descriptor or are blank.
func smallRows(visit func(p api.Params, r known)) {
	for _, x := range []struct {
		p        api.Params
		versions []int
	}{
		{api.Params{K: 1, R: 0, Cell: 32, Rows: 8}, []int{0, 1, 5, most}},
		{api.Params{K: 1, R: 1, Cell: 32, Rows: 8}, []int{0, 1, 5, 6, most}},
		{exampleP(), []int{0, 4, 5, 6}},
		{api.Params{K: 3, R: 0, Cell: 11, Rows: 8}, []int{0, 1, most}},
	} {
		var fill func(r known, drive int)
		fill = func(r known, drive int) {
			if drive == len(r) {
				visit(x.p, r)
				return
			}
			for _, first := range x.versions {
				for _, second := range x.versions {
					next := r
					if first > 0 {
						next = next.holding(x.p, 0, first, drive)
					}
					if second > 0 {
						next = next.holding(x.p, 1, second, drive)
					}
					fill(next, drive+1)
				}
			}
		}
		fill(blank(x.p), 0)
	}
}

// standing are rows of one sort each: which versions are held, by how many drives.
func standing(p api.Params) []known {
	n := p.K + p.R
	all, few, just, rest := upTo(0, n), upTo(0, p.K-1), upTo(p.R, n), upTo(0, p.R)
	return []known{
		blank(p),
		blank(p).holding(p, 0, 5, few...),                                                                     // too few
		blank(p).holding(p, 0, 5, just...),                                                                    // a winner that just K drives hold, no runner
		blank(p).holding(p, 0, 5, all...),                                                                     // all drives
		blank(p).holding(p, 1, 5, all...),                                                                     // in the other slots
		blank(p).holding(p, 0, 5, all...).holding(p, 1, 7, all...),                                            // a winner and a runner
		blank(p).holding(p, 0, 7, all...).holding(p, 1, 5, all...),                                            // the other way round
		blank(p).holding(p, 0, 5, all...).holding(p, 1, 7, just...),                                           // the winner is to be finished
		blank(p).holding(p, 0, 5, just...).holding(p, 1, 7, upTo(0, p.K)...),                                  // the runner is not whole either
		blank(p).holding(p, 0, 5, all...).holding(p, 1, 7, few...),                                            // a loser
		blank(p).holding(p, 0, most, all...).holding(p, 1, most-1, all...),                                    // no version is above this winner
		blank(p).holding(p, 0, 5, rest...).holding(p, 0, 7, just...),                                          // too few hold what would be the runner
		blank(p).holding(p, 0, 8, just...).holding(p, 0, 5, rest...).holding(p, 1, 6, few...),                 // versions below the winner that do not count
		blank(p).holding(p, 0, 8, all...).holding(p, 1, 4, just...).holding(p, 1, 6, rest...),                 // one between the winner and the runner, where that is held by enough
		blank(p).holding(p, 0, 5, all...).having(p, 1, 1, 9, wantBytes(p, descOf(p, 1, 9)), all...),           // slots of KindData beside it
		blank(p).holding(p, 0, 5, all...).having(p, 1, 1, 5, wantBytes(p, descOf(p, 1, 9)), all...),           // with the same version
		blank(p).having(p, 0, 1, 5, wantBytes(p, descOf(p, 1, 9)), all...).holding(p, 1, 5, all...),           // ahead of it
		blank(p).having(p, 0, 1, 5, wantBytes(p, descOf(p, 1, 9)), all...),                                    // and these alone
		blank(p).holding(p, 0, 5, all...).holding(p, 1, 5, all...),                                            // one version twice
		blank(p).holding(p, 0, 256+5, just...).holding(p, 1, 1<<24+5, few...).holding(p, 0, 65536+5, rest...), // alike in their last bytes
	}
}
