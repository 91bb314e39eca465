package recover

import (
	"slices"
	"testing"

	"twoslot/api"
)

// emptyStore is the image M of the document's table: an empty store of the version 1.
func emptyStore() known {
	p := exampleP()
	k := blank(p)
	for row := 1; row <= 4; row++ {
		k = k.whole(row, 0, 2, 1, descBytes(p, api.Desc{}))
	}
	k = k.whole(5, 0, 1, 1, append(rowBytes(1, 2, 3, 4), make([]byte, 24)...))
	return k.whole(0, 0, 2, 1, descBytes(p, api.Desc{Length: 8, Refs: []api.Ref{{Row: 5, Version: 1}}}))
}

// holding is the image in which one slot has some content.
func (k known) holding(drive, row, number int, c content) known {
	return k.changed(row, func(r line) { r[drive][number] = c })
}

func TestP24_1Examples(t *testing.T) {
	k := emptyStore()
	if l, err := Plan(k.image()); len(l) != 0 || err != api.OK {
		t.Error(l, err)
	}
	was := k.rows[0][2][0].bytes
	l, err := Plan(k.holding(2, 0, 0, content{}).image())
	if !samePuts(l, []api.Put{{Drive: 2, Row: 0, Slot: 0, Bytes: was}}) || err != api.OK {
		t.Error(l, err)
	}
	if l, err := Plan(blank(exampleP()).image()); l != nil || err != api.ErrLost {
		t.Error(l, err)
	}
	if l, err := Plan(api.Image{}); l != nil || err != api.ErrParams {
		t.Error(l, err)
	}
}

func TestP24_2Examples(t *testing.T) {
	k := emptyStore()
	for _, x := range []struct {
		m   api.Image
		is  bool
		err api.Errno
	}{
		{k.image(), true, api.OK},
		{k.holding(2, 0, 0, content{}).image(), false, api.OK},
		{k.holding(2, 5, 0, content{}).image(), true, api.OK}, // a stripe's cell is no descriptor's
		{blank(k.p).image(), false, api.ErrLost},
		{api.Image{}, false, api.ErrParams},
	} {
		if is, err := Done(x.m); is != x.is || err != x.err {
			t.Error(is, err, x.is, x.err)
		}
	}
}

// Images as a crash may leave them, against the document's sentences, and what was put into them: only winners are finished, only where they are not held, all of them.
func TestP24_1And2Stores(t *testing.T) {
	t.Parallel()
	somes, nones, deep := 0, 0, 0
	for _, p := range few() {
		seeds := 40
		if p.Rows > 100 {
			seeds = 8
		}
		for seed := range seeds {
			its := standing(p, seed)
			puts := check(t, its.known, "seed", seed)
			its.finishes(t, puts)
			if len(puts) > 0 {
				somes++
			} else {
				nones++
			}
			for _, row := range its.descs() {
				if o, _ := its.told(row); o.d.Depth == 1 {
					deep++
				}
			}
		}
	}
	if somes < 100 || nones < 40 || deep < 30 {
		t.Fatalf("%d images have something to be finished, %d have not; %d objects have leaves", somes, nones, deep)
	}
}

// finishes tells that raw writes are those of the drives that do not hold what was put in as the version that counts, descriptor by descriptor, drive by drive.
func (its stood) finishes(t *testing.T, puts []api.Put) {
	t.Helper()
	i := 0
	for _, row := range its.descs() {
		winner := its.lives[row][0].Version
		holders := its.rows[row].holders(winner)
		for drive := range its.p.K + its.p.R {
			if slices.Contains(holders, drive) {
				continue
			}
			if i >= len(puts) || puts[i].Row != row || puts[i].Drive != drive || its.read(puts[i].Bytes).slot.Cell != winner {
				t.Fatalf("%v: the raw write %d is not that of the drive %d in the row %d: %s", its.p, i, drive, row, places(puts))
			}
			i++
		}
	}
	if i != len(puts) {
		t.Fatalf("%v: there are %d raw writes, want %d: %s", its.p, len(puts), i, places(puts))
	}
}

func TestP24_1And2EveryParams(t *testing.T) {
	t.Parallel()
	every(func(p api.Params) {
		p.Rows = min(p.Rows, 24) // great images are the same, but slow
		its := standing(p, p.K*p.Cell+p.R)
		its.finishes(t, check(t, its.known))
	})
}

// some of the descriptors of a directory: the root's, a bucket's, those of an object without leaves and of one with leaves.
func (its stood) fewDescs() []int {
	return []int{0, its.buckets[2], its.entries[1][0].Row, its.entries[3][1].Row}
}

// Each descriptor alone, held by each number of drives from K on, the others not yet: just these are written, with the bytes that all others have of it, into the slot in which it stood.
func TestP24_1HeldByEachNumber(t *testing.T) {
	t.Parallel()
	for _, p := range few() {
		its := directory(p, 1)
		n := its.p.K + its.p.R
		answersWith(t, its.image(), nil, api.OK, "all whole")
		for _, row := range its.descs() {
			for many := p.K; many <= n; many++ {
				k := its.known
				var want []api.Put
				for drive := many; drive < n; drive++ {
					number := its.winning(row, drive)
					c := beside(p, drive, elder) // the slot without bytes gets the cell, be it the other one
					k = k.holding(drive, row, number, content{}).holding(drive, row, 1-number, c)
					want = append(want, api.Put{Drive: drive, Row: row, Slot: number, Bytes: its.rows[row][drive][number].bytes})
				}
				answersWith(t, k.image(), want, api.OK, "the row", row, "held by", many)
				check(t, k)
			}
		}
	}
}

// Whichever K drives hold it, and the others nothing: these get it, rising.
func TestP24_1HeldByEachChoice(t *testing.T) {
	t.Parallel()
	for _, p := range few() {
		if p.R == 0 {
			continue
		}
		its := directory(p, 2)
		n := p.K + p.R
		for i, row := range its.fewDescs() {
			asked := 0
			choices(n, p.K, func(holders []int) {
				if asked++; n > 12 && asked%100 != i {
					return // the choices of 12 of 16 are many
				}
				k := its.known
				var want []api.Put
				for drive := range n {
					if !slices.Contains(holders, drive) {
						number := its.winning(row, drive)
						k = k.holding(drive, row, number, content{})
						want = append(want, api.Put{Drive: drive, Row: row, Slot: 0, Bytes: its.rows[row][drive][number].bytes})
					}
				}
				answersWith(t, k.image(), want, api.OK, "the row", row, "held by", holders)
			})
		}
	}
}

// What fewer than K drives hold was not committed: nothing is finished of it, nor taken away; from K on it is the winner, and what was is the runner.
func TestP24_1BegunAndNotCommitted(t *testing.T) {
	t.Parallel()
	for _, p := range few() {
		its := directory(p, 3)
		n := p.K + p.R
		for i, row := range its.descs() {
			d := its.rows[row].data(p, 2, its.lives[row][0].Version)
			for many := range n + 1 {
				if n > 12 && many < p.K && (many+i)%4 > 0 {
					continue
				}
				k := its.known
				var want []api.Put
				for drive := range n {
					number := its.winning(row, drive)
					next := contentOf(slotOf(2, drive, same(p, newest), cellsOf(p, d)[drive]))
					if drive < many {
						k = k.holding(drive, row, 1-number, next)
					} else if many >= p.K {
						want = append(want, api.Put{Drive: drive, Row: row, Slot: 1 - number, Bytes: next.bytes})
					}
				}
				answersWith(t, k.image(), want, api.OK, "the row", row, "begun on", many)
			}
		}
	}
}

// Several at once: all that are half done are finished, in the order of the directory: the root, the buckets, the objects, bucket by bucket, entry by entry.
func TestP24_1SeveralAtOnce(t *testing.T) {
	t.Parallel()
	for _, p := range few() {
		if p.R == 0 {
			continue
		}
		its := directory(p, 4)
		descs := its.descs()
		if len(descs) != 1+3*buckets || slices.IsSorted(descs) {
			t.Fatalf("%v: the descriptors are %v", p, descs)
		}
		for turn := range 60 {
			k := its.known
			var want []api.Put
			for i, row := range descs {
				if turn > 0 && its.throw.below(3) == 0 {
					continue
				}
				drive := (i + turn) % (p.K + p.R)
				number := its.winning(row, drive)
				k = k.holding(drive, row, number, content{})
				want = append(want, api.Put{Drive: drive, Row: row, Slot: 0, Bytes: its.rows[row][drive][number].bytes})
			}
			answersWith(t, k.image(), want, api.OK, "turn", turn)
		}
	}
}

// Drives that are wiped get all descriptors again, each with the bytes that it had; with more of them than R it is lost.
func TestP24_1MissingDrives(t *testing.T) {
	t.Parallel()
	for _, p := range few() {
		its := directory(p, 5)
		n, asked := p.K+p.R, 0
		wipes(p, func(drives []int) {
			if asked++; n > 12 && asked%60 > 1 {
				return // the choices of 4 of 16 are many
			}
			var want []api.Put
			for _, row := range its.descs() {
				for _, drive := range drives {
					want = append(want, api.Put{Drive: drive, Row: row, Slot: 0, Bytes: its.rows[row][drive][its.winning(row, drive)].bytes})
				}
			}
			answersWith(t, its.without(drives...).image(), want, api.OK, "wiped", drives)
		})
		for first := range n {
			var drives []int
			for i := range p.R + 1 {
				drives = append(drives, (first+i)%n)
			}
			answersWith(t, its.without(drives...).image(), nil, api.ErrLost, "wiped", drives)
		}
	}
}

// Drives that are wiped where descriptors are half done already.
func TestP24_1MissingDrivesOfCrashes(t *testing.T) {
	t.Parallel()
	ends := map[api.Errno]int{}
	for _, p := range few() {
		p.Rows = min(p.Rows, 20)
		for seed := range 12 {
			its := standing(p, seed)
			for drive := range p.K + p.R {
				if p.K > 4 && (drive+seed)%4 > 0 {
					continue
				}
				k := its.without(drive)
				check(t, k, "wiped", drive)
				_, err := k.wantPlan()
				ends[err]++
			}
		}
	}
	if ends[api.OK] < 60 || ends[api.ErrLost] < 20 {
		t.Fatalf("the calls end in %v", ends)
	}
}

// Of stripes and leaves nothing is finished: Heal does that.
func TestP24_1StripesAndLeavesAreNot(t *testing.T) {
	t.Parallel()
	deep := 0
	for _, p := range few() {
		if p.R == 0 {
			continue // without a cell a leaf, a bucket and the root are lost
		}
		its := directory(p, 6)
		for _, live := range its.stripes() {
			if live.Kind == 2 {
				continue
			}
			for _, many := range []int{1, p.R} {
				k := its.changed(live.Row, func(r line) { clear(r[:many]) })
				answersWith(t, k.image(), nil, api.OK, "the row", live.Row, "without", many)
			}
		}
		for _, l := range its.entries {
			for _, x := range l {
				o, _ := its.told(x.Row)
				deep += o.d.Depth
				k := its.known
				for _, at := range o.stripes {
					k = k.lost(at.Row) // all of an object's bytes: its descriptor is read all the same
				}
				answersWith(t, k.image(), nil, api.OK, "without the bytes of", x.Name)
			}
		}
	}
	if deep < 4 {
		t.Fatalf("%d objects have leaves", deep)
	}
}

// Of descriptors that are in free rows nothing is finished.
func TestP24_1FreeRowsAreNot(t *testing.T) {
	t.Parallel()
	for _, p := range few() {
		its := directory(p, 7)
		k := its.known
		for i, free := range its.free {
			k = k.lost(free).having(free, i%2, 2, same(p, 30+i%25), descBytes(p, api.Desc{}), upTo(0, p.K+i%(p.R+1))...)
		}
		answersWith(t, k.image(), nil, api.OK, "half a descriptor in each free row")
		row := its.entries[3][1].Row
		its.known = k.changed(row, func(r line) { clear(r[p.K:]) })
		its.finishes(t, check(t, its.known))
	}
}

// What a drive has in its two slots instead of the winner: the cell goes where the runner is not; else to a slot that holds nothing; else over the lesser Cell.
func TestP24_1IntoWhichSlot(t *testing.T) {
	t.Parallel()
	for _, p := range few() {
		if p.R == 0 {
			continue
		}
		p.Rows = min(p.Rows, 9)
		its := begun(p, 8).done()
		n := p.K + p.R
		for i, row := range []int{0, its.buckets[3]} {
			for _, runner := range []int{0, elder} { // none; the one that all other drives hold
				k := its.known
				for drive := range n {
					if runner > 0 {
						k = k.holding(drive, row, 1-its.winning(row, drive), beside(p, drive, runner))
					}
				}
				drive := (i + p.K) % n
				kinds := append(noSlots(p, 2, drive)[:12], beside(p, drive, elder), beside(p, drive, elder-1), beside(p, drive, 1), beside(p, (drive+1)%n, elder),
					contentOf(slotOf(1, drive, same(p, elder), some(p.Cell, 3))), contentOf(slotOf(1, drive, same(p, 5), some(p.Cell, 3))))
				if p.K > 1 {
					kinds = append(kinds, beside(p, drive, newest)) // else it would count
				}
				for a, first := range kinds {
					for b, second := range kinds {
						if n > 3 && (a+3*b+i)%5 > 0 {
							continue // the pairs are many
						}
						now := k.changed(row, func(r line) { r[drive] = [2]content{first, second} })
						if winner := now.rows[row].winner(p); winner != its.lives[row][0].Version {
							continue // one data cell: what one drive holds counts
						}
						if puts := check(t, now, "the row", row, "the drive", drive); len(puts) != 1 || puts[0].Drive != drive {
							t.Fatalf("%v: the raw writes are %s", p, places(puts))
						}
					}
				}
			}
		}
	}
}

// By hand: where the runner is kept, where it is not there, where a slot is blank, and where both slots are of elder versions.
func TestP24_1IntoWhichSlotByHand(t *testing.T) {
	p := exampleP()
	k := emptyStore()
	for drive := range 3 {
		k = k.holding(drive, 3, 1, beside(p, drive, 4)) // the version 4 beside the version 1, that is the runner now
	}
	next := beside(p, 2, 4)
	other := func(version int) content { return beside(p, 2, version) }
	noSlot := content{bytes: make([]byte, sizeOf(p))}
	for i, x := range []struct {
		two  [2]content
		slot int
	}{
		{[2]content{other(1), {}}, 1},
		{[2]content{{}, other(1)}, 0},
		{[2]content{other(1), other(2)}, 1},
		{[2]content{other(2), other(1)}, 0},
		{[2]content{other(1), other(9)}, 1},
		{[2]content{other(9), other(1)}, 0},
		{[2]content{other(1), noSlot}, 1},
		{[2]content{other(1), other(1)}, 1},
		{[2]content{}, 0},
		{[2]content{other(9), {}}, 1},
		{[2]content{noSlot, noSlot}, 0},
		{[2]content{other(9), beside(p, 1, 1)}, 1},
		{[2]content{other(3), other(2)}, 1},
		{[2]content{other(2), other(9)}, 0},
		{[2]content{other(2), other(2)}, 0},
		{[2]content{contentOf(slotOf(1, 2, same(p, 1), some(16, 1))), other(2)}, 0},
	} {
		now := k.changed(3, func(r line) { r[2] = x.two })
		answersWith(t, now.image(), []api.Put{{Drive: 2, Row: 3, Slot: x.slot, Bytes: next.bytes}}, api.OK, "by hand", i)
	}
}

// Without parity a version that counts is held by all drives: nothing is ever to be finished.
func TestP24_1NoParity(t *testing.T) {
	t.Parallel()
	every(func(p api.Params) {
		if p.R > 0 {
			return
		}
		p.Rows = min(p.Rows, 40)
		its := standing(p, p.K+p.Cell)
		answersWith(t, its.image(), nil, api.OK, "no parity")
		for drive := range p.K {
			answersWith(t, its.without(drive).image(), nil, api.ErrLost, "no parity, wiped", drive)
		}
	})
}

// Entries may name one row several times, also a bucket's, or the root's: it is told as often.
func TestP24_1OneRowOfSeveralNames(t *testing.T) {
	t.Parallel()
	for _, p := range few() {
		its := begun(p, 3)
		row := its.take()
		its.object(row, nil)
		its.entries[1] = []api.Entry{entry("a", row), entry("e", 0), entry("i", row)} // 97 and on: each fourth letter is of the bucket 1
		if len(its.free) > 4 {
			its.entries[2] = []api.Entry{entry("b", its.buckets[2]), entry("f", row), entry("j", its.buckets[1])}
		}
		its = its.done()
		its.finishes(t, check(t, its.known))
		for _, at := range []int{row, 0, its.buckets[1], its.buckets[2]} {
			now := its
			now.known = its.changed(at, func(r line) { clear(r[p.K:]) })
			puts := check(t, now.known, "the row", at)
			now.finishes(t, puts)
			often := 1
			for _, l := range its.entries {
				for _, x := range l {
					if x.Row == at {
						often++
					}
				}
			}
			if at == row {
				often--
			}
			if len(puts) != often*p.R {
				t.Fatalf("%v: the row %d, named %d times, is finished by %s", p, at, often, places(puts))
			}
		}
	}
}

// The root may name one row for several buckets: what it is, and what its entries name, is told as often.
func TestP24_1OneRowOfSeveralBuckets(t *testing.T) {
	t.Parallel()
	for _, p := range few() {
		its := begun(p, 5)
		object := its.take()
		its.object(object, nil)
		its.buckets = slices.Repeat(its.buckets[:1], buckets)
		l := []api.Entry{entry("a", object)}
		its.object(its.buckets[0], asBytes(l))
		its.object(0, rowBytes(its.buckets...))
		its.entries = slices.Repeat([][]api.Entry{l}, buckets)
		its.known = its.changed(its.buckets[0], func(r line) { clear(r[p.K:]) }).changed(object, func(r line) { clear(r[p.K:]) })
		puts := check(t, its.known)
		its.finishes(t, puts)
		if len(puts) != 2*buckets*p.R {
			t.Fatalf("%v: the raw writes are %s", p, places(puts))
		}
	}
}

// Each row that there is may have the descriptor of a bucket or of an object, and is written by its number, also above 255; the slots of all drives.
func TestP24_1EachRow(t *testing.T) {
	t.Parallel()
	for _, p := range []api.Params{exampleP(), {K: 1, R: 1, Cell: 32, Rows: 9}, {K: 4, R: 1, Cell: 8, Rows: 256}} {
		for row := 1; row < p.Rows; row++ {
			its := begun(p, row)
			its.free = slices.DeleteFunc(append(its.free, its.buckets...), func(other int) bool { return other == row })
			its.buckets = slices.Clone(its.free[:4])
			its.free = its.free[4:]
			object := row
			if row%2 == 0 {
				its.buckets[row/2%4], object = row, its.buckets[row/2%4]
			}
			its.object(object, nil)
			its.entries[1] = []api.Entry{entry("a", object)}
			if len(its.free) < 2 {
				t.Fatalf("%v: there are too few rows", p)
			}
			its = its.done()
			for drive := range p.K + p.R {
				number := its.winning(row, drive)
				k := its.holding(drive, row, number, content{})
				answersWith(t, k.image(), []api.Put{{Drive: drive, Row: row, Slot: 0, Bytes: its.rows[row][drive][number].bytes}}, api.OK, "the row", row)
			}
		}
	}
}

// The greatest versions, and such as are alike in their last bytes.
func TestP24_1Versions(t *testing.T) {
	for _, p := range few() {
		its := begun(p, 9).done()
		n := p.K + p.R
		empty := descBytes(p, api.Desc{})
		row := its.buckets[3]
		for _, two := range [][2]int{{1, 2}, {2, 3}, {5, 256 + 5}, {256 + 5, 65536 + 5}, {65536 + 5, 1<<24 + 5}, {1<<24 + 5, most - 1}, {most - 1, most}, {1, most}} {
			for number := range 2 {
				k := its.lost(row).whole(row, number, 2, two[0], empty).having(row, 1-number, 2, same(p, two[1]), empty, upTo(p.R, n)...)
				var want []api.Put
				for drive := range p.R {
					want = append(want, api.Put{Drive: drive, Row: row, Slot: 1 - number, Bytes: bytesOf(slotOf(2, drive, same(p, two[1]), cellsOf(p, empty)[drive]))})
				}
				answersWith(t, k.image(), want, api.OK, "versions", two)
			}
		}
	}
}

// Many objects: as many entries as there may be in one bucket, most of which name one row.
func TestP24_1GreatDirectory(t *testing.T) {
	t.Parallel()
	p := api.Params{K: 12, R: 4, Cell: 64, Rows: 256}
	its := begun(p, 1)
	row, other := its.take(), its.take()
	its.object(row, nil)
	its.object(other, nil)
	var l []api.Entry
	for i := 0; 6*len(l)+6 <= measured(p).most; i++ {
		l = append(l, entry(string([]byte{byte(i >> 8), byte(i), 0}), row))
	}
	l[len(l)/2].Row = other
	its.entries[2] = l
	its.object(0, rowBytes(its.buckets...))
	for bucket, at := range its.buckets {
		its.object(at, asBytes(its.entries[bucket]))
	}
	for _, at := range []int{row, other} {
		its.known = its.changed(at, func(r line) { clear(r[p.K+3:]) })
	}
	puts, err := Plan(its.image())
	its.finishes(t, puts)
	if err != api.OK || len(puts) != len(l) || len(l) != 5461 {
		t.Fatalf("of %d entries %d are finished, %d", len(l), len(puts), err)
	}
}
