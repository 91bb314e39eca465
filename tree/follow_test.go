package tree

import (
	"slices"
	"testing"

	"twoslot/api"
	"twoslot/commit"
	"twoslot/desc"
	"twoslot/image"
	"twoslot/layout"
	"twoslot/stripe"
)

// counted holds how much is told of an object of a length against layout, and against what the bytes need.
func counted(t *testing.T, m api.Image, row, length int) {
	t.Helper()
	a, width := asked(m, row), measured(m.P).width
	stripes, err1 := layout.Stripes(m.P, length)
	leaves, err2 := layout.Leaves(m.P, length)
	rows, err3 := layout.Rows(m.P, length)
	if a.errs != [3]api.Errno{} || err1 != api.OK || err2 != api.OK || err3 != api.OK {
		t.Fatalf("%v: of the length %d it tells %s", m.P, length, a.told())
	}
	if a.d.Length != length || len(a.stripes) != stripes || len(a.leaves) != leaves || len(a.live) != rows {
		t.Fatalf("%v: of the length %d, with %d stripes, %d leaves, %d rows, it tells %s", m.P, length, stripes, leaves, rows, a.told())
	}
	if many := len(a.stripes); many*width < length || (many-1)*width >= length {
		t.Fatalf("%v: the length %d has %d stripes", m.P, length, many)
	}
	if len(a.rows) > rows {
		t.Fatalf("%v: the length %d has the rows %v", m.P, length, a.rows)
	}
}

func TestP17_4Counts(t *testing.T) {
	for _, p := range few() {
		for _, length := range lengths(p) {
			k, _ := blank(p).built(2, 5, length, length)
			counted(t, k.image(), 2, length)
		}
	}
}

func TestP17_4CountsOfEveryLength(t *testing.T) {
	t.Parallel()
	for _, p := range []api.Params{exampleP(), {K: 1, R: 0, Cell: 32, Rows: 8}, {K: 3, R: 2, Cell: 11, Rows: 13}} {
		for length := range measured(p).most + 1 {
			k, _ := blank(p).built(2, 5, length, length)
			counted(t, k.image(), 2, length)
		}
	}
}

// Whatever an image holds: what is told of it has the counts of its length.
func TestP17_4CountsOfMixedImages(t *testing.T) {
	t.Parallel()
	mixedImages(40, func(k known) {
		for row := range 4 {
			if d, _, _, _, err := Object(k.image(), row); err == api.OK {
				counted(t, k.image(), row, d.Length)
			}
		}
	})
}

// wiped is an image in which all slots of some drives are blank.
func wiped(m api.Image, drives ...int) api.Image {
	made := api.Image{P: m.P, Slots: slices.Clone(m.Slots)}
	for _, drive := range drives {
		clear(made.Slots[2*drive*m.P.Rows : 2*(drive+1)*m.P.Rows])
	}
	return made
}

// tellsThroughWipes tells that no choice of at most R wiped drives changes anything.
func tellsThroughWipes(t *testing.T, k known, row int, o object) {
	t.Helper()
	m := k.image()
	wipes(k.p, func(drives []int) {
		tells(t, wiped(m, drives...), row, o)
	})
}

// shallowAndDeep are lengths of both depths, where there are both.
func shallowAndDeep(p api.Params) []int {
	m := measured(p)
	direct := min(m.most, m.direct*m.width)
	return slices.Compact([]int{0, direct, min(m.most, direct+1), m.most})
}

func TestP17_4Wiped(t *testing.T) {
	t.Parallel()
	for _, p := range few() {
		for i, length := range shallowAndDeep(p) {
			if p.K+p.R > 12 {
				p.Rows = min(p.Rows, 20)
				length = min(length, measured(p).direct*measured(p).width+1) // the choices of 4 of 16 are many
			}
			for _, row := range []int{0, p.Rows - 1} {
				if p.K+p.R > 12 && row > 0 {
					continue
				}
				k, o := blank(p).built(row, 5, length, i)
				tellsThroughWipes(t, k, row, o)
			}
		}
	}
}

// Objects with many leaves, of many drives, with the greatest of all: each drive alone, and R of them side by side.
func TestP17_4WipedGreat(t *testing.T) {
	t.Parallel()
	for _, p := range few() {
		n := p.K + p.R
		k, o := blank(p).built(p.Rows-1, most, measured(p).most, 7)
		m := k.image()
		for first := range n {
			for many := range p.R + 1 {
				var drives []int
				for i := range many {
					drives = append(drives, (first+i)%n)
				}
				tells(t, wiped(m, drives...), p.Rows-1, o)
			}
		}
	}
}

// beside are images in which something else stands in the slots 1 of the rows of an object: no slots; old versions; such as were begun.
func (k known) beside(o object, row int) []known {
	n := k.p.K + k.p.R
	others := descBytes(k.p, api.Desc{Length: 1, Refs: []api.Ref{{Row: 1, Version: 1}}})
	junk := k.changed(row, func(r line) {
		for drive := range r {
			r[drive][1] = noSlots(k.p, 2, drive)[4+drive]
		}
	})
	old, begun := k.whole(row, 1, 2, 4, others), k.having(row, 1, 2, same(k.p, 8), others, upTo(n-k.p.K+1, n)...)
	for _, at := range o.leaves {
		junk = junk.changed(at.Row, func(r line) {
			for drive := range r {
				r[drive][1] = noSlots(k.p, 1, drive)[4+drive]
			}
		})
		old = old.whole(at.Row, 1, 1, at.Version-1, leafBytes(k.p, refsOf(k.p, 1, 3)))
		begun = begun.having(at.Row, 1, 1, with(same(k.p, at.Version), at.Version+1, 0), some(k.p.K*k.p.Cell, 4), 0)
	}
	return []known{junk, old, begun}
}

func TestP17_4WipedWithOthersBeside(t *testing.T) {
	t.Parallel()
	for _, p := range few() {
		if p.K+p.R > 12 {
			continue // the choices of 4 of 16 are many
		}
		p.Rows = 20 // a row for each leaf
		for i, length := range shallowAndDeep(p) {
			k, o := blank(p).built(5, 6, length, i)
			for _, now := range k.beside(o, 5) {
				tellsThroughWipes(t, now, 5, o)
			}
		}
	}
}

// A descriptor whose cells stand in either slot, as wipes and later versions leave them, is told likewise.
func TestP17_4WipedTurned(t *testing.T) {
	t.Parallel()
	for _, p := range few() {
		if p.K+p.R > 12 {
			continue
		}
		p.Rows = 20 // a row for each leaf
		for i, length := range shallowAndDeep(p) {
			k, o := blank(p).built(5, 6, length, i)
			turned := k
			for _, row := range append([]int{5}, rowsOf(o.leaves)...) {
				turned = turned.changed(row, func(r line) {
					for drive := range r {
						if drive%2 == 0 {
							r[drive][0], r[drive][1] = r[drive][1], r[drive][0]
						}
					}
				})
			}
			tellsThroughWipes(t, turned, 5, o)
		}
	}
}

func rowsOf(refs []api.Ref) []int {
	var rows []int
	for _, r := range refs {
		rows = append(rows, r.Row)
	}
	return rows
}

// A leaf that was updated has cells of several versions: its version is told by the changed data cell and the R parity cells alone.
func TestP17_4WipedRenewedLeaf(t *testing.T) {
	t.Parallel()
	for _, p := range deep() {
		p.Rows = 20 // a row for each leaf
		length := measured(p).direct*measured(p).width + 1
		if p.K+p.R <= 12 {
			length = measured(p).most
		}
		k, o := blank(p).built(0, 5, length, 6)
		for i := range o.leaves {
			if o.leaves[i].Version > 1000 || p.K+p.R > 12 && i > 0 {
				continue // 1005 must be above it; and the choices of 4 of 16 are many
			}
			renewed, now := k.renewedLeaf(o, i, 1005)
			tellsThroughWipes(t, renewed, 0, o)
			tellsThroughWipes(t, renewed.whole(0, 1, 2, 1005, descBytes(p, now.d)), 0, now)
		}
	}
}

// A leaf whose version R drives tell alone is lost with these, though enough of its cells are there; with one more it is not.
func TestP17_4ToldByTooFew(t *testing.T) {
	for _, p := range deep() {
		if p.R == 0 {
			continue
		}
		k, o := leafy(p)
		for i, at := range o.leaves {
			version, tellers := at.Version, upTo(p.K, p.K+p.R)
			data := leafBytes(k.p, k.heldBy(o, i))
			few := k.lost(at.Row).whole(at.Row, 0, 1, version-1, data)
			few = few.having(at.Row, 1, 1, with(same(k.p, version-1), version, tellers...), data, tellers...)
			tells(t, few.image(), 3, o)
			refuses(t, wiped(few.image(), tellers...), 3, api.ErrLost)
			if p.K+p.R > 12 {
				continue
			}
			more := append(tellers, i%p.K)
			enough := k.lost(at.Row).whole(at.Row, 0, 1, version-1, data)
			enough = enough.having(at.Row, 1, 1, with(same(k.p, version-1), version, more...), data, more...)
			tellsThroughWipes(t, enough, 3, o)
		}
	}
}

// With more than R drives wiped too few cells are left: nothing is told, and nothing wrong.
func TestP17_4MoreWiped(t *testing.T) {
	for _, p := range few() {
		p.Rows = min(p.Rows, 20)
		n := p.K + p.R
		for i, length := range shallowAndDeep(p) {
			k, _ := blank(p).built(2, 5, length, i)
			m := k.image()
			for first := range n {
				var drives []int
				for next := range p.R + 1 {
					drives = append(drives, (first+next)%n)
				}
				refuses(t, wiped(m, drives...), 2, api.ErrLost)
			}
			refuses(t, wiped(m, upTo(0, n)...), 2, api.ErrLost)
		}
	}
}

// Where an update of a leaf was begun, and more drives were wiped, the old object is told, or that it is lost.
func TestP17_4LostAndNeverWrong(t *testing.T) {
	for _, p := range deep() {
		if p.K+p.R > 6 {
			continue // all choices of drives are asked
		}
		p.Rows = 20
		k, o := blank(p).built(0, 5, measured(p).most, 6)
		renewed, now := k.renewedLeaf(o, 0, 1005)
		for _, its := range []struct {
			k known
			o object
		}{{renewed, o}, {renewed.whole(0, 1, 2, 1005, descBytes(p, now.d)), now}} {
			for many := range p.K + p.R + 1 {
				choices(p.K+p.R, many, func(drives []int) {
					a := asked(wiped(its.k.image(), drives...), 0)
					if !a.same(answersOf(p, 0, its.o)) && !a.refused(api.ErrLost) {
						t.Fatalf("%v: with %v wiped it tells\n%s", p, drives, a.told())
					}
				})
			}
		}
	}
}

// put is an image behind raw writes.
func put(t *testing.T, m api.Image, l []api.Put, err api.Errno) api.Image {
	t.Helper()
	if err != api.OK {
		t.Fatalf("the raw writes are refused: %d", err)
	}
	m, err = image.After(m, l, len(l))
	if err != api.OK {
		t.Fatalf("After is refused: %d", err)
	}
	return m
}

// written is the image with an object in a row, by the raw writes of the layers below: leaves first, then the descriptor.
func written(t *testing.T, m api.Image, row, version int, o object) api.Image {
	t.Helper()
	room := measured(m.P).leaf
	for i, at := range o.leaves {
		data, err := desc.Leaf(m.P, o.stripes[i*room:min(len(o.stripes), (i+1)*room)])
		if err != api.OK {
			t.Fatalf("Leaf is refused: %d", err)
		}
		pairs, _ := image.Row(m, at.Row)
		l, err := stripe.Full(m.P, pairs, at.Row, api.KindData, 0, at.Version, data)
		m = put(t, m, l, err)
	}
	pairs, _ := image.Row(m, row)
	l, err := commit.Puts(m.P, pairs, row, version, o.d)
	return put(t, m, l, err)
}

// Objects that the layers below wrote, one behind the other in one row, are told through wipes by image.
func TestP17_4ByTheLayersBelow(t *testing.T) {
	for _, p := range few() {
		p.Rows = min(max(p.Rows, 16), 20)
		m, _ := image.Blank(p)
		for i, length := range lengths(p) {
			_, o := blank(p).built(2, 5+i, length, i)
			for at := range o.leaves {
				o.leaves[at].Version = 5 + i
			}
			m = written(t, m, 2, 5+i, o)
			tells(t, m, 2, o)
			now := m
			for turn := range p.R {
				var err api.Errno
				now, err = image.Wiped(now, (5*turn+i)%(p.K+p.R))
				if err != api.OK {
					t.Fatalf("Wiped is refused: %d", err)
				}
				tells(t, now, 2, o)
			}
		}
	}
}
