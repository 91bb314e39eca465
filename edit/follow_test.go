package edit

import (
	"bytes"
	"slices"
	"testing"

	"twoslot/api"
	"twoslot/census"
	"twoslot/commit"
	"twoslot/image"
	"twoslot/object"
	"twoslot/stripe"
	"twoslot/tree"
)

// makes is what an object of these bytes has behind a call: as many bytes as the length, those handed in, the others as they were, 0 where there was none.
func (c call) makes(was []byte) []byte {
	now := make([]byte, c.length)
	copy(now, was)
	copy(now[c.off:], c.data)
	return now
}

// putInto makes a raw write in an image whose list of slots is the test's own.
func putInto(m api.Image, x api.Put) {
	m.Slots[(x.Drive*m.P.Rows+x.Row)*2+x.Slot] = x.Bytes
}

// wiped is an image in which all slots of some drives are blank.
func wiped(m api.Image, drives ...int) api.Image {
	made := api.Image{P: m.P, Slots: slices.Clone(m.Slots)}
	for _, drive := range drives {
		clear(made.Slots[2*drive*m.P.Rows : 2*(drive+1)*m.P.Rows])
	}
	return made
}

// reads tells that the object of a row has these bytes.
func reads(t *testing.T, m api.Image, row int, want []byte, when ...any) {
	t.Helper()
	if b, err := object.Bytes(m, row); !bytes.Equal(b, want) || err != api.OK {
		t.Fatalf("%v: the row %d is read as %v, %d, want %v: %v", m.P, row, b, err, want, when)
	}
}

// present are the cells of a live stripe that are there.
func present(m api.Image, its api.Live) []int {
	pairs, _ := image.Row(m, its.Row)
	there, _ := stripe.Present(m.P, pairs, its.Kind, its.Version)
	return there
}

// live is all that is live of an object of an image, and which cells of it are there.
func live(t *testing.T, m api.Image, row int) ([]api.Live, [][]int) {
	t.Helper()
	all, err := tree.Stripes(m, row)
	if err != api.OK {
		t.Fatalf("%v: Stripes are refused, %d", m.P, err)
	}
	var there [][]int
	for _, its := range all {
		there = append(there, present(m, its))
	}
	return all, there
}

// keeps tells that all cells are there that were.
func keeps(t *testing.T, m api.Image, all []api.Live, there [][]int, when ...any) {
	t.Helper()
	for i, its := range all {
		if now := present(m, its); !slices.Equal(now, there[i]) && len(slices.DeleteFunc(slices.Clone(there[i]), func(cell int) bool { return slices.Contains(now, cell) })) > 0 {
			t.Fatalf("%v: of %v the cells %v are there, were %v: %v", m.P, its, now, there[i], when)
		}
	}
}

// onlyIn tells that the raw writes are in rows that the object has and goes on to have, or that were taken for it.
func onlyIn(t *testing.T, m api.Image, c call, a answer) {
	t.Helper()
	had, _ := tree.Rows(m, c.row)
	met, _ := image.Rows(a.l)
	for _, row := range met {
		if !slices.Contains(a.taken, row) && (!slices.Contains(had, row) || slices.Contains(a.given, row)) {
			t.Fatalf("%v: a raw write into the row %d, that it has not", c, row)
		}
	}
	if need, err := Need(m.P, len(bytesIn(m, c.row)), c.length); len(a.taken) != need || !slices.Equal(a.taken, c.free[:need]) || err != api.OK {
		t.Fatalf("%v: it takes %v, needed are %d", c, a.taken, need)
	}
}

// bytesIn are the bytes of an object that can be read.
func bytesIn(m api.Image, row int) []byte {
	b, _ := object.Bytes(m, row)
	return b
}

// follows makes the raw writes of a call one by one. Behind each number of them the object has the old bytes, or the new ones from the commit on, and all that was live is there still, as is all that will be from the commit on; so it is read through wipes, if these are asked for.
func follows(t *testing.T, m api.Image, c call, a answer, throughWipes bool) api.Image {
	t.Helper()
	if a.err != api.OK {
		t.Fatalf("%v: %v is refused, %d", m.P, c, a.err)
	}
	n, was := m.P.K+m.P.R, bytesIn(m, c.row)
	now := c.makes(was)
	all, there := live(t, m, c.row)
	onlyIn(t, m, c, a)
	m = api.Image{P: m.P, Slots: slices.Clone(m.Slots)}
	var new []api.Live
	var then [][]int
	for i := 0; ; i++ {
		made := max(0, i-len(a.l)+n) // of the descriptor's raw writes
		if len(a.l) == 0 {
			made = n
		}
		if made < m.P.K {
			reads(t, m, c.row, was, c, i)
		} else {
			reads(t, m, c.row, now, c, i)
		}
		if made == m.P.K {
			new, then = live(t, m, c.row)
		}
		keeps(t, m, all, there, c, i)
		keeps(t, m, new, then, c, i)
		if throughWipes {
			readsThroughWipes(t, m, c, was, now, made, i)
		}
		if i == len(a.l) {
			return m
		}
		putInto(m, a.l[i])
	}
}

// readsThroughWipes tells that with any R drives wiped the object has the old bytes, and the new ones where K drives that are not wiped have the new descriptor.
func readsThroughWipes(t *testing.T, m api.Image, c call, was, now []byte, made, i int) {
	t.Helper()
	wipes(m.P, func(drives []int) {
		left := made
		for _, drive := range drives {
			if drive < made {
				left--
			}
		}
		want := was
		if left >= m.P.K {
			want = now
		}
		reads(t, wiped(m, drives...), c.row, want, c, i, drives)
	})
}

// changes are some calls on an object: it stays as long, gets longer, shorter, with other bytes here and there.
func (its stood) changes(p api.Params, every int) []call {
	var all []call
	from, number := len(its.bytes), 0
	for _, to := range lengthsFrom(p, from) {
		for _, at := range reaches(p, from, to) {
			if number++; number%every == 0 {
				all = append(all, its.toSet(to, at.off, some(at.many, number)))
			}
		}
		for _, data := range alike(p, its.bytes, to, number) {
			if number++; number%every == 0 {
				all = append(all, its.toWhole(data))
			}
		}
	}
	return all
}

// shallowAndDeep are lengths of both depths for which the rows have room.
func shallowAndDeep(p api.Params) []int {
	m := measured(p)
	direct := min(m.most, m.direct*m.width)
	return slices.DeleteFunc(slices.Compact([]int{0, 1, m.width, m.width + 1, direct, min(m.most, direct+1), min(m.most, m.leaf*m.width+1)}), func(length int) bool { return !fits(p, length) })
}

func TestP19_5And6EachNumberOfRawWrites(t *testing.T) {
	each(t, few(), func(t *testing.T, p api.Params) {
		every := 13
		if p.K+p.R > 6 {
			every = 101 // many drives make many raw writes
		}
		p.Rows = min(p.Rows, 20) // great images are the same, but slow
		for i, length := range shallowAndDeep(p) {
			its := standing(p, i%2*(p.Rows-1), length, i)
			for _, c := range its.changes(p, every) {
				follows(t, its.image(), c, c.on(its.image()), false)
			}
		}
	})
}

// With many rows, and with leaves.
func TestP19_5And6GreatImages(t *testing.T) {
	each(t, few(), func(t *testing.T, p api.Params) {
		if p.Rows < 256 && p.K > 2 {
			return
		}
		m := measured(p)
		p.Rows = 256
		for i, from := range []int{0, m.width + 1, min(m.most, (m.direct+1)*m.width)} {
			its := standing(p, 255*(i%2), from, i)
			to := min(m.most, (m.direct+m.leaf/3)*m.width/2+9)
			for _, c := range []call{its.toSet(max(from, m.width+2), from/2, some(9, 3)), its.toSet(to, to-3, some(3, 9)), its.toWhole(some(to/2, 5)), its.toSet(from/2, 0, nil)} {
				m, a := its.image(), c.on(its.image())
				was := bytesIn(m, its.row)
				for i, x := range a.l {
					if put := a.l[max(0, i-1)]; x.Row != put.Row || len(a.l)-i < p.K+p.R { // where a stripe is written whole, and in the descriptor
						made := i - len(a.l) + p.K + p.R
						reads(t, m, its.row, map[bool][]byte{true: was, false: c.makes(was)}[made < p.K], c, i)
					}
					putInto(m, x)
				}
				reads(t, m, its.row, c.makes(was), c)
			}
		}
	})
}

// Behind each number of raw writes each choice of at most R drives is wiped.
func TestP19_6Wiped(t *testing.T) {
	each(t, few(), func(t *testing.T, p api.Params) {
		every := 53
		if p.K+p.R > 6 {
			return // of 16 drives the choices of 4 are many: see below
		}
		p.Rows = min(p.Rows, 20)
		for i, length := range shallowAndDeep(p) {
			its := standing(p, i%2*(p.Rows-1), length, i+5)
			for _, c := range its.changes(p, every) {
				follows(t, its.image(), c, c.on(its.image()), true)
			}
		}
	})
}

// Of many drives some choices are wiped, R side by side and fewer.
func TestP19_6WipedOfManyDrives(t *testing.T) {
	p := api.Params{K: 12, R: 4, Cell: 8, Rows: 12}
	its := standing(p, 0, measured(p).width+9, 4)
	for i, c := range []call{its.toSet(len(its.bytes), 5, some(80, 3)), its.toSet(3*measured(p).width, 90, some(100, 4)), its.toWhole(some(50, 5))} {
		m, a := its.image(), c.on(its.image())
		now := c.makes(its.bytes)
		for written := range len(a.l) + 1 {
			made := max(0, written-len(a.l)+16)
			for first := range 16 {
				var drives []int
				left := made
				for next := range (first + i + written) % 5 {
					drive := (first + 3*next) % 16
					if drives = append(drives, drive); drive < made {
						left--
					}
				}
				want := its.bytes
				if left >= p.K {
					want = now
				}
				reads(t, wiped(m, drives...), 0, want, c, written, drives)
			}
			if written < len(a.l) {
				putInto(m, a.l[written])
			}
		}
	}
}

// An object some of whose drives were wiped ahead is changed likewise, by what is left of it.
func TestP19_6ChangedWithDrivesWiped(t *testing.T) {
	each(t, few(), func(t *testing.T, p api.Params) {
		if p.K+p.R > 6 {
			return // the choices are many
		}
		p.Rows = min(p.Rows, 20)
		for i, length := range shallowAndDeep(p) {
			its := standing(p, i%2*(p.Rows-1), length, i+9)
			calls := its.changes(p, 89)
			wipes(p, func(drives []int) {
				left := its.known.without(drives...)
				for _, c := range calls {
					follows(t, left.image(), c, answers(t, left, c), false)
				}
			})
		}
	})
}

// With more than R drives wiped too few cells are left: no raw write is told.
func TestP19_1MoreDrivesWiped(t *testing.T) {
	for i, p := range few() {
		p.Rows = min(p.Rows, 20)
		its := standing(p, 2, measured(p).width+9, i)
		for first := range p.K + p.R {
			var drives []int
			for next := range p.R + 1 {
				drives = append(drives, (first+next)%(p.K+p.R))
			}
			left := its.known.without(drives...)
			refuses(t, left, its.toSet(5, 2, []byte{1}), api.ErrLost)
			refuses(t, left, its.toSet(len(its.bytes), 0, nil), api.ErrLost)
			refuses(t, left, its.toWhole(its.bytes), api.ErrLost)
		}
	}
}

// Two objects of one image: what is changed of one leaves all bytes of the other's rows, and of the rows that are free still.
func TestP19_5OtherRows(t *testing.T) {
	each(t, few(), func(t *testing.T, p api.Params) {
		p.Rows = min(max(p.Rows, 16), 20)
		its := standing(p, 5, measured(p).width+3, 7)
		m := its.image()
		for _, c := range its.changes(p, 17) {
			a := c.on(m)
			after, err := image.After(m, a.l, len(a.l))
			if err != api.OK {
				t.Fatalf("%v: After is refused, %d", p, err)
			}
			had, _ := tree.Rows(m, 5)
			for row := range p.Rows {
				if slices.Contains(had, row) && !slices.Contains(a.given, row) || slices.Contains(a.taken, row) {
					continue
				}
				was, _ := image.Row(m, row)
				now, _ := image.Row(after, row)
				if !slices.EqualFunc(was, now, func(a, b api.Pair) bool { return bytes.Equal(a[0], b[0]) && bytes.Equal(a[1], b[1]) }) {
					t.Fatalf("%v: %v changes the row %d", p, c, row)
				}
			}
			if len(a.l) > 0 {
				has, _ := tree.Rows(after, 5)
				want := append(slices.DeleteFunc(had, func(row int) bool { return slices.Contains(a.given, row) }), a.taken...)
				slices.Sort(want)
				if !slices.Equal(has, want) {
					t.Fatalf("%v: behind %v it has the rows %v, want %v", p, c, has, want)
				}
			}
		}
	})
}

// drives are some objects that share an image, as they are changed one behind the other.
type drives struct {
	m       api.Image
	rows    []int
	bytes   [][]byte
	free    []int
	version int
	throw   dice
}

// begun are blank drives with objects of no bytes in the first and in the last row.
func begun(p api.Params, seed int) *drives {
	d := &drives{rows: []int{0, p.Rows - 1}, bytes: make([][]byte, 2), free: upTo(1, p.Rows-1), version: 1, throw: dice(seed)}
	k := blank(p)
	for _, row := range d.rows {
		k = k.whole(row, 0, 2, 1, descBytes(p, api.Desc{}))
	}
	d.m = k.image()
	return d
}

// next is some call on one of the objects, for which enough rows are free.
func (d *drives) next(which int) call {
	p, was := d.m.P, d.bytes[which]
	d.version++
	for {
		length := one(&d.throw, append(lengthsFrom(p, len(was)), len(was), len(was)))
		c := call{whole: d.throw.below(3) == 0, row: d.rows[which], free: d.free, version: d.version, length: length}
		if c.whole {
			c.data = one(&d.throw, alike(p, was, length, d.version))
		} else {
			at := one(&d.throw, reaches(p, len(was), length))
			c.off, c.data = at.off, some(at.many, d.version)
		}
		if needs(p, len(was), length) <= len(d.free) {
			return c
		}
	}
}

// done is a call of which so many raw writes are made; what was committed is finished, if that is asked for.
func (d *drives) done(t *testing.T, which int, c call, a answer, many int, finish bool) {
	t.Helper()
	p := d.m.P
	now := c.makes(d.bytes[which])
	for _, x := range a.l[:many] {
		putInto(d.m, x)
	}
	if len(a.l) > 0 && many < len(a.l)-p.R {
		return
	}
	d.bytes[which] = now
	d.free = slices.DeleteFunc(append(slices.Clone(d.free), a.given...), func(row int) bool { return slices.Contains(a.taken, row) })
	slices.Sort(d.free)
	if finish {
		pairs, _ := image.Row(d.m, c.row)
		l, err := commit.Finish(p, pairs, c.row)
		if err != api.OK {
			t.Fatalf("%v: behind %v it can't be finished, %d", p, c, err)
		}
		for _, x := range l {
			putInto(d.m, x)
		}
	}
}

// Many changes, some of them cut off behind some raw writes: each object is read as it was or as it is to be, also with drives wiped, and what stands there from earlier is in nobody's way.
func TestP19_5And6Series(t *testing.T) {
	each(t, few(), func(t *testing.T, p api.Params) {
		p.Rows = min(p.Rows, 24)
		turns := 150
		if p.K+p.R > 6 {
			turns = 40
		}
		for seed := range 3 {
			d := begun(p, seed)
			for turn := range turns {
				which := turn % 2
				c := d.next(which)
				a := c.on(d.m)
				if turn%5 == 0 {
					follows(t, d.m, c, a, p.K+p.R < 6)
				}
				many := len(a.l)
				if d.throw.below(2) == 0 {
					many = d.throw.below(many + 1)
				}
				d.done(t, which, c, a, many, true)
				for i, row := range d.rows {
					reads(t, d.m, row, d.bytes[i], c, many)
					wipe := slices.Compact(slices.Sorted(slices.Values([]int{turn % (p.K + p.R), (turn + p.R/2) % (p.K + p.R)})))
					reads(t, wiped(d.m, wipe[:min(len(wipe), p.R)]...), row, d.bytes[i], c, many)
				}
			}
		}
	})
}

// A descriptor that was committed, but not written on all drives, counts all the same, and is kept while the next one is written.
func TestP19_6NotFinished(t *testing.T) {
	each(t, few(), func(t *testing.T, p api.Params) {
		p.Rows = min(p.Rows, 24)
		d := begun(p, 7)
		for turn := range 40 {
			c := d.next(turn % 2)
			a := c.on(d.m)
			if turn%3 == 0 {
				follows(t, d.m, c, a, false)
			}
			d.done(t, turn%2, c, a, max(0, len(a.l)-turn%(p.R+1)), false)
			for i, row := range d.rows {
				reads(t, d.m, row, d.bytes[i], c)
			}
		}
	})
}

// The K-th raw write of the descriptor is the commit: with it, and not ahead of it, the new version wins.
func TestP19_6TheCommit(t *testing.T) {
	for i, p := range few() {
		p.Rows = min(p.Rows, 24)
		point, _ := commit.Point(p)
		its := standing(p, 3, measured(p).width, i)
		for _, c := range []call{its.toSet(1, 0, nil), its.toSet(measured(p).width+1, 1, some(3, 4)), its.toWhole(some(9, 9))} {
			m, a := its.image(), c.on(its.image())
			for j, x := range a.l {
				pairs, _ := image.Row(m, 3)
				winner, _, _ := census.Winner(p, pairs)
				if made := j - len(a.l) + p.K + p.R; (winner == newest+1) != (made >= point) {
					t.Fatalf("%v: behind %d raw writes of %d the winner is %d", p, j, len(a.l), winner)
				}
				putInto(m, x)
			}
		}
	}
}

// A Set of c cells of one stripe of an object of Depth 0 makes c + R raw writes in that stripe's row, and n in the descriptor's.
func TestP19_7(t *testing.T) {
	each(t, few(), func(t *testing.T, p api.Params) {
		p.Rows = min(p.Rows, 24)
		width, n := measured(p).width, p.K+p.R
		length := min(measured(p).direct, 3)*width - 2
		its := standing(p, 1, length, 3)
		o, _ := its.told(1)
		m := its.image()
		for number, at := range o.stripes {
			for first := range p.K {
				for last := first; last < p.K; last++ {
					from, to := number*width+first*p.Cell, min(length, number*width+last*p.Cell+1+(first+last)%p.Cell)
					from = min(from+(first+last)%p.Cell, number*width+first*p.Cell+p.Cell-1, to-1)
					a := its.toSet(length, from, some(to-from, first+last)).on(m)
					want := append(upTo(first, last+1), upTo(p.K, n)...)
					in := slices.DeleteFunc(slices.Clone(a.l), func(x api.Put) bool { return x.Row != at.Row })
					if a.err != api.OK || len(a.l) != len(want)+n || len(in) != len(want) || len(a.taken)+len(a.given) > 0 {
						t.Fatalf("%v: the cells %d to %d make %v, %d", p, first, last, places(a.l), a.err)
					}
					for i, x := range a.l {
						if i < len(want) && (x.Row != at.Row || x.Drive != want[i]) || i >= len(want) && (x.Row != 1 || x.Drive != i-len(want)) {
							t.Fatalf("%v: the cells %d to %d of the row %d make %v", p, first, last, at.Row, places(a.l))
						}
					}
				}
			}
		}
	})
}
