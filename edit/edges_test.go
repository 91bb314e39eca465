package edit

import (
	"bytes"
	"fmt"
	"slices"
	"testing"

	"twoslot/api"
)

// lengthsFrom are lengths to which an object of a length may go: those at the edges, and those around its own one, around the edges of its cells and of its stripes.
func lengthsFrom(p api.Params, from int) []int {
	m := measured(p)
	all := lengths(p)
	for _, at := range []int{from, from / p.Cell * p.Cell, from / m.width * m.width, from - p.Cell, from - m.width, from + p.Cell, from + m.width} {
		all = append(all, at-1, at, at+1)
	}
	slices.Sort(all)
	return slices.DeleteFunc(slices.Compact(all), func(length int) bool { return length < 0 || length > m.most || !fits(p, length) })
}

// reach is where data stand: so many from a place on.
type reach struct{ off, many int }

// reaches are data in an object that goes from a length to another one: none, one byte, a cell, one cell's last byte and the next one's first, a stripe, all; from 0 on, from the old length, behind it, up to the new one.
func reaches(p api.Params, from, to int) []reach {
	width := measured(p).width
	last := max(0, to-1) / width * width
	all := []reach{
		{0, 0}, {to, 0}, {to / 2, 0}, {0, to}, {0, 1}, {to - 1, 1}, {to / 2, 1}, {from, 1}, {from + 1, 1}, {from - 1, 2},
		{from, to - from}, {from + 1, to - from - 1}, {0, from}, {0, p.Cell}, {p.Cell - 1, 2}, {p.Cell, p.Cell}, {width - 1, 2},
		{0, width}, {width, width}, {width - p.Cell, 2 * p.Cell}, {last, to - last}, {last - 1, to - last + 1}, {to - p.Cell, p.Cell}, {to - width, width}, {1, to - 2},
	}
	return slices.DeleteFunc(all, func(its reach) bool { return its.off < 0 || its.many < 0 || its.off+its.many > to })
}

// measuredRows are the parameters with so many rows that objects of Most have room, where so many may be.
func measuredRows(p api.Params) api.Params {
	for p.Rows < 256 && !fits(p, measured(p).most) {
		p.Rows++
	}
	return p
}

// slow tells of parameters of which only some calls are made: great images are the same.
func slow(p api.Params) bool { return (p.K+p.R)*p.Rows > 500 }

// sampled tells whether a call of many is made: every so many of great images, of others many more.
func sampled(p api.Params, number, every int) bool {
	switch {
	case slow(p):
		return number%every == 0
	case (p.K+p.R)*p.Rows > 100:
		return number%7 == 0
	}
	return true
}

// fitting are the lengths at the edges for which the rows have room.
func fitting(p api.Params) []int {
	return slices.DeleteFunc(lengths(p), func(length int) bool { return !fits(p, length) })
}

// each runs a test of each of some parameters, side by side.
func each(t *testing.T, all []api.Params, test func(t *testing.T, p api.Params)) {
	t.Helper()
	for _, p := range all {
		t.Run(fmt.Sprint(p), func(t *testing.T) {
			t.Parallel()
			test(t, p)
		})
	}
}

func TestP19_1Edges(t *testing.T) {
	each(t, few(), func(t *testing.T, p api.Params) {
		number := 0
		for i, from := range fitting(p) {
			its := standing(p, i%2*(p.Rows-1), from, i)
			for _, to := range lengthsFrom(p, from) {
				for _, at := range reaches(p, from, to) {
					if number++; sampled(p, number, 29) {
						answers(t, its.known, its.toSet(to, at.off, some(at.many, number)))
					}
				}
			}
		}
	})
}

func TestP19_2Edges(t *testing.T) {
	each(t, few(), func(t *testing.T, p api.Params) {
		number := 0
		for i, from := range fitting(p) {
			its := standing(p, (i+1)%2*(p.Rows-1), from, i)
			for _, to := range lengthsFrom(p, from) {
				for _, data := range alike(p, its.bytes, to, number) {
					if number++; sampled(p, number, 17) {
						answers(t, its.known, its.toWhole(data))
					}
				}
			}
		}
	})
}

// alike are bytes of a length, most of which are those that were there: cut off or with 0 behind them, with some of them changed, and none of them.
func alike(p api.Params, was []byte, length, seed int) [][]byte {
	cut := make([]byte, length)
	copy(cut, was)
	all := [][]byte{cut, some(length, seed), make([]byte, length)}
	width := measured(p).width
	for _, at := range []int{0, p.Cell - 1, p.Cell, width - 1, width, length / 2, length - 1, min(length, len(was)) - 1, len(was)} {
		if at >= 0 && at < length {
			now := bytes.Clone(cut)
			now[at] ^= byte(1 + seed%255)
			all = append(all, now)
		}
	}
	if length > p.Cell { // a cell's last byte and the next one's first
		now := bytes.Clone(cut)
		now[p.Cell-1]++
		now[p.Cell]++
		all = append(all, now)
	}
	return all
}

// Objects of Most, where the rows have room for them: leaves and stripes, all of them, come and go.
func TestP19_1Most(t *testing.T) {
	t.Parallel()
	for i, p := range few() {
		p = measuredRows(p)
		top := measured(p).most
		if !fits(p, top) {
			continue
		}
		great, small := standing(p, i, top, i), standing(p, i, i%2, i)
		for j, c := range []call{
			small.toSet(top, 0, some(top, i)), small.toSet(top, top-1, []byte{1}), small.toSet(top, 0, nil), small.toWhole(some(top, i)),
			great.toSet(top, 0, some(top, 2)), great.toSet(top, top-1, []byte{1}), great.toSet(top-1, 5, some(9, i)), great.toSet(0, 0, nil), great.toSet(1, 0, nil),
			great.toWhole(great.bytes), great.toWhole(great.bytes[:top-1]), great.toWhole(some(top, 7)), great.toWhole(nil),
		} {
			k := small.known
			if j > 3 {
				k = great.known
			}
			if a := answers(t, k, c); a.err != api.OK {
				t.Fatalf("%v: %v is refused, %d", p, c, a.err)
			}
		}
	}
}

// Where the rows have no room for Most nothing is written.
func TestP19_1MoreThanTheRows(t *testing.T) {
	found := 0
	for i, p := range few() {
		if top := measured(p).most; !fits(p, top) {
			its := standing(p, 0, 5, i)
			refuses(t, its.known, its.toSet(top, 0, nil), api.ErrFull)
			refuses(t, its.known, its.toWhole(make([]byte, top)), api.ErrFull)
			found++
		}
	}
	if found == 0 {
		t.Fatal("all parameters have room")
	}
}

// refuses tells that a call is refused, and that this is what the document's sentences say, too.
func refuses(t *testing.T, k known, c call, err api.Errno) {
	t.Helper()
	if a := answers(t, k, c); a.err != err {
		t.Fatalf("%v: it is refused with %d, want %d", c, a.err, err)
	}
}

// Every K and R, with small cells and great ones.
func TestP19_1EveryParams(t *testing.T) {
	t.Parallel()
	every(func(p api.Params) {
		p.Rows = 8 + (p.K+p.Cell)%9
		width := measured(p).width
		from, to := (p.K+p.R)%4*width+p.Cell+1, (p.K+p.Cell)%4*width+5
		its := standing(p, p.R%2*7, from, p.Cell)
		answers(t, its.known, its.toSet(to, to/2, some(to/3, 4)))
		answers(t, its.known, its.toSet(from, from/2, some(from/3, 4)))
		answers(t, its.known, its.toSet(from-2, 0, nil))
		for _, data := range alike(p, its.bytes, to, 3)[1:5] {
			answers(t, its.known, its.toWhole(data))
		}
	})
}

// Every length before and behind, with Depth 0 and 1, in the fewest rows.
func TestP19_1EveryLength(t *testing.T) {
	t.Parallel()
	p := api.Params{K: 1, R: 0, Cell: 32, Rows: 8}
	for from := 0; fits(p, from); from++ {
		its := standing(p, from%8, from, from)
		for to := from % 3; fits(p, to); to += 3 {
			answers(t, its.known, its.toSet(to, to*from%(to+1), some((to-to*from%(to+1))/2, to)))
			answers(t, its.known, its.toSet(to, to, nil))
			answers(t, its.known, its.toWhole(some(to, from)))
		}
	}
}

// Every part of a stripe, within an object whose length stays, and where the object gets longer or shorter.
func TestP19_1EveryPart(t *testing.T) {
	t.Parallel()
	for _, p := range []api.Params{exampleP(), {K: 4, R: 0, Cell: 8, Rows: 8}, {K: 3, R: 2, Cell: 11, Rows: 13}} {
		width := measured(p).width
		its := standing(p, 2, width+width/2, 3)
		for off := range width + 1 {
			for many := range width - off + 1 {
				answers(t, its.known, its.toSet(width+width/2, off, some(many, 5)))
				if (off+many)%5 == 0 {
					answers(t, its.known, its.toSet(off+many, off, some(many, 5)))
					answers(t, its.known, its.toSet(width+off+many, width+off, some(many, 5)))
				}
			}
		}
	}
}

// Bytes that are there already: by Set the cells that they meet are written all the same, by Whole nothing is.
func TestP19_1TheSameBytes(t *testing.T) {
	t.Parallel()
	for _, p := range few() {
		for i, length := range lengths(p) {
			if length == 0 || !fits(p, length) || slow(p) && i%3 > 0 {
				continue
			}
			its := standing(p, 0, length, i)
			for _, at := range reaches(p, length, length) {
				a := answers(t, its.known, its.toSet(length, at.off, its.bytes[at.off:at.off+at.many]))
				if (len(a.l) == 0) != (at.many == 0) {
					t.Fatalf("%v: %d of %d bytes make %d raw writes", p, at.many, length, len(a.l))
				}
			}
			if a := answers(t, its.known, its.toWhole(its.bytes)); len(a.l)+len(a.taken)+len(a.given) > 0 || a.err != api.OK {
				t.Fatalf("%v: the bytes that are there make %d raw writes, %d", p, len(a.l), a.err)
			}
		}
	}
}

// Just as many free rows as are needed are enough, one fewer is not; of more the first ones are taken.
func TestP19_1FreeRows(t *testing.T) {
	t.Parallel()
	for i, p := range few() {
		width := measured(p).width
		for _, from := range []int{0, 1, width} {
			its := standing(p, 1, from, i)
			for _, to := range lengthsFrom(p, from) {
				need := needs(p, from, to)
				for _, many := range []int{0, need - 1, need, need + 1, len(its.free)} {
					if many < 0 || many > len(its.free) || slow(p) && (many+to)%4 > 0 {
						continue
					}
					for _, free := range [][]int{its.free[:many], its.free[len(its.free)-many:]} {
						for _, c := range []call{set(1, free, newest+1, to, to/2, some(to-to/2, 3)), whole(1, free, newest+1, some(to, 3))} {
							a := answers(t, its.known, c)
							if full := a.err == api.ErrFull; full != (many < need) || !full && !slices.Equal(a.taken, free[:need]) {
								t.Fatalf("%v: from %d on %v takes %v, %d", p, from, c, a.taken, a.err)
							}
						}
					}
				}
			}
		}
	}
}

// What is not asked for takes no rows, so that none need be free.
func TestP19_1NoFreeRows(t *testing.T) {
	for i, p := range few() {
		width := measured(p).width
		its := standing(p, 0, width+1, i)
		its.free = nil
		for _, c := range []call{its.toSet(width+1, 0, some(width+1, 2)), its.toSet(width+2, 0, nil), its.toSet(2*width, width, some(width, 4)), its.toSet(0, 0, nil), its.toWhole(some(2*width, 3)), its.toWhole(nil)} {
			if a := answers(t, its.known, c); a.err != api.OK || len(a.l) == 0 {
				t.Fatalf("%v: without free rows %v is %v, %d", p, c, places(a.l), a.err)
			}
		}
	}
}

// Every version above the newest one may be the new one, up to MaxVersion.
func TestP19_1Versions(t *testing.T) {
	for i, p := range few() {
		width := measured(p).width
		its := standing(p, p.Rows-1, width+9, i)
		for _, version := range []int{newest + 1, newest + 2, 255, 256, 65536, most - 1, most} {
			for _, c := range []call{set(its.row, its.free, version, 2*width+1, width-1, some(3, 1)), whole(its.row, its.free, version, some(2*width+1, 3))} {
				if a := answers(t, its.known, c); a.err != api.OK {
					t.Fatalf("%v: the version %d is refused, %d", p, version, a.err)
				}
			}
		}
	}
}

// An object of no bytes, whose descriptor alone is there.
func TestP19_1NoBytes(t *testing.T) {
	for i, p := range few() {
		for _, row := range []int{0, p.Rows - 1} {
			its := standing(p, row, 0, i)
			for _, c := range []call{its.toSet(0, 0, nil), its.toWhole(nil), its.toWhole([]byte{})} {
				if a := answers(t, its.known, c); len(a.l) > 0 || a.err != api.OK {
					t.Fatalf("%v: nothing is written: %v, %d", p, places(a.l), a.err)
				}
			}
			for _, c := range []call{its.toSet(1, 0, nil), its.toSet(1, 0, []byte{0}), its.toSet(1, 0, []byte{3}), its.toWhole([]byte{0}), its.toWhole([]byte{3})} {
				if a := answers(t, its.known, c); len(a.l) != 2*(p.K+p.R) || !slices.Equal(a.taken, its.free[:1]) {
					t.Fatalf("%v: a byte is written: %v, %d", p, places(a.l), a.err)
				}
			}
		}
	}
}

func TestP19_3Edges(t *testing.T) {
	t.Parallel()
	every(func(p api.Params) {
		all := lengths(p)
		for _, from := range all {
			for _, to := range all {
				if got, err := Need(p, from, to); got != needs(p, from, to) || err != api.OK {
					t.Fatalf("%v: Need from %d to %d is %d, %d, want %d", p, from, to, got, err, needs(p, from, to))
				}
			}
		}
	})
}

// To go there in two steps takes as many rows, where the object gets longer by each.
func TestP19_3Steps(t *testing.T) {
	for _, p := range few() {
		all := lengths(p)
		for i, from := range all {
			for j, between := range all[i:] {
				for _, to := range all[i+j:] {
					a, _ := Need(p, from, between)
					b, _ := Need(p, between, to)
					both, _ := Need(p, from, to)
					back, err := Need(p, to, from)
					if a+b != both || back != 0 || err != api.OK {
						t.Fatalf("%v: Need from %d by %d to %d is %d and %d, in one %d, and back %d, %d", p, from, between, to, a, b, both, back, err)
					}
				}
			}
		}
	}
}
