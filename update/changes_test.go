package update

import (
	"bytes"
	"testing"

	"twoslot/api"
)

// wantChanges is the document's answer, byte by byte: which cells have one of the bytes, and what all bytes are then.
func wantChanges(p api.Params, old []byte, at int, now []byte) []api.Change {
	var l []api.Change
	for cell := range p.K {
		met, data := false, []byte{}
		for place := cell * p.Cell; place < (cell+1)*p.Cell; place++ {
			if place >= at && place-at < len(now) {
				met, data = true, append(data, now[place-at])
			} else {
				data = append(data, old[place])
			}
		}
		if met {
			l = append(l, api.Change{Cell: cell, Data: data})
		}
	}
	return l
}

// wantUnlike is the document's answer, byte by byte.
func wantUnlike(p api.Params, old, now []byte) []api.Change {
	var l []api.Change
	for cell := range p.K {
		unlike, data := false, []byte{}
		for place := cell * p.Cell; place < (cell+1)*p.Cell; place++ {
			unlike = unlike || old[place] != now[place]
			data = append(data, now[place])
		}
		if unlike {
			l = append(l, api.Change{Cell: cell, Data: data})
		}
	}
	return l
}

func checkChanges(t *testing.T, p api.Params, old []byte, at int, now []byte) []api.Change {
	t.Helper()
	want := wantChanges(p, old, at, now)
	l, err := Changes(p, old, at, now)
	if err != api.OK || !sameChanges(l, want) {
		t.Fatalf("%v: Changes of %v from %d on to %v are %v, %d, want %v", p, old, at, now, l, err, want)
	}
	return l
}

func checkUnlike(t *testing.T, p api.Params, old, now []byte) []api.Change {
	t.Helper()
	want := wantUnlike(p, old, now)
	l, err := Unlike(p, old, now)
	if err != api.OK || !sameChanges(l, want) {
		t.Fatalf("%v: Unlike of %v and %v are %v, %d, want %v", p, old, now, l, err, want)
	}
	return l
}

func TestP13_2Examples(t *testing.T) {
	p, zero := exampleP(), make([]byte, 32)
	want := []api.Change{{Cell: 0, Data: append(filled(15, 0), 9)}, {Cell: 1, Data: append([]byte{9}, filled(15, 0)...)}}
	if l, err := Changes(p, zero, 15, filled(2, 9)); err != api.OK || !sameChanges(l, want) {
		t.Fatalf("Changes are %v, %d", l, err)
	}
	if l, err := Changes(p, zero, 32, nil); err != api.OK || len(l) != 0 {
		t.Fatalf("Changes without bytes are %v, %d", l, err)
	}
	if l, err := Changes(p, zero, 31, filled(2, 9)); err != api.ErrSize || l != nil {
		t.Fatalf("Changes of a byte too many are %v, %d", l, err)
	}
	if l, err := Unlike(p, zero, make([]byte, 32)); err != api.OK || len(l) != 0 {
		t.Fatalf("Unlike of the same are %v, %d", l, err)
	}
}

// Every place and every number of bytes: one cell, two cells, all; from the first byte, to the last one, from a cell's end, up to one; none.
func TestP13_2EveryRange(t *testing.T) {
	for _, p := range []api.Params{exampleP(), {K: 1, R: 2, Cell: 32, Rows: 8}, {K: 4, R: 0, Cell: 8, Rows: 8}, {K: 3, R: 2, Cell: 11, Rows: 8}} {
		width := p.K * p.Cell
		old, now := some(width, 1), some(width, 2)
		for at := range width + 1 {
			for many := range width - at + 1 {
				checkChanges(t, p, old, at, now[:many])
			}
		}
	}
}

// By every K, R and Cell: the edges of cells and of the stripe.
func TestP13_2RangesByEveryParams(t *testing.T) {
	every(func(p api.Params) {
		width := p.K * p.Cell
		old, now := some(width, p.K), some(width, p.K+1)
		for _, x := range [][2]int{
			{0, 0}, {0, 1}, {0, p.Cell - 1}, {0, p.Cell}, {0, width - 1}, {0, width},
			{p.Cell, 0}, {p.Cell - 1, 1}, {width - p.Cell, p.Cell}, {width - p.Cell, p.Cell - 1},
			{width - 1, 0}, {width - 1, 1}, {width, 0}, {1, width - 1}, {1, width - 2}, {width / 2, width / 3},
		} {
			if x[0]+x[1] <= width {
				checkChanges(t, p, old, x[0], now[:x[1]])
			}
		}
	})
}

// A cell that the bytes meet is told, though they come to the same.
func TestP13_2ChangesThatComeToTheSame(t *testing.T) {
	for _, p := range few() {
		width := p.K * p.Cell
		old := some(width, 3)
		for cell := range p.K {
			at := cell*p.Cell + cell%p.Cell
			if l := checkChanges(t, p, old, at, old[at:at+1]); len(l) != 1 || l[0].Cell != cell {
				t.Fatalf("%v: a byte that comes to the same is %v", p, l)
			}
		}
		if l := checkChanges(t, p, old, 0, old); len(l) != p.K {
			t.Fatalf("%v: bytes that come to the same are %v", p, l)
		}
	}
}

// No bytes meet no cell, at any place, nil or not.
func TestP13_2NoBytes(t *testing.T) {
	for _, p := range few() {
		old := some(p.K*p.Cell, 3)
		for at := range p.K*p.Cell + 1 {
			for _, none := range [][]byte{nil, {}, old[:0]} {
				if l, err := Changes(p, old, at, none); len(l) != 0 || err != api.OK {
					t.Fatalf("%v: no bytes at %d are %v, %d", p, at, l, err)
				}
			}
		}
	}
}

// Unlike in one byte, whichever it is; in the first and in the last cell; in all, in none.
func TestP13_2Unlike(t *testing.T) {
	for _, p := range few() {
		width := p.K * p.Cell
		old := some(width, 4)
		checkUnlike(t, p, old, bytes.Clone(old))
		for place := range width {
			for _, by := range []byte{1, 128, 255} {
				now := bytes.Clone(old)
				now[place] ^= by
				if l := checkUnlike(t, p, old, now); len(l) != 1 || l[0].Cell != place/p.Cell {
					t.Fatalf("%v: the cells %v are unlike, where the byte %d is", p, l, place)
				}
				now[0]++
				now[width-1]++
				checkUnlike(t, p, old, now)
			}
		}
		now := bytes.Clone(old)
		for cell := range p.K {
			now[cell*p.Cell+cell%p.Cell]++
		}
		if l := checkUnlike(t, p, old, now); len(l) != p.K {
			t.Fatalf("%v: of stripes that are unlike in all cells %v are", p, l)
		}
	}
}

func TestP13_2UnlikeByEveryParams(t *testing.T) {
	every(func(p api.Params) {
		width, throw := p.K*p.Cell, dice(p.Cell)
		old := some(width, p.R)
		for _, many := range []int{0, 1, 2, 5} {
			now := bytes.Clone(old)
			for range many {
				now[throw.below(width)] ^= 64
			}
			checkUnlike(t, p, old, now)
			checkUnlike(t, p, now, old)
		}
		checkUnlike(t, p, old, some(width, 70))
		checkUnlike(t, p, make([]byte, width), filled(width, 255))
	})
}

// Changes, and Unlike of the stripe and of what they make of it, come to the same bytes: those with the new ones in their places.
func TestP13_5ChangesAndUnlikeComeToTheSame(t *testing.T) {
	few := append(few(), api.Params{K: 5, R: 1, Cell: 9, Rows: 8})
	for i, p := range few {
		width, throw := p.K*p.Cell, dice(i)
		for round := range 200 {
			old := some(width, round)
			at := throw.below(width + 1)
			now := some(throw.below(width-at+1), round+throw.below(2)) // with the seed of the old ones they may come to the same at 0
			want := bytes.Clone(old)
			copy(want[at:], now)
			changes := checkChanges(t, p, old, at, now)
			if got := made(p, old, changes); !bytes.Equal(got, want) {
				t.Fatalf("%v: Changes from %d on come to %v, want %v", p, at, got, want)
			}
			unlike := checkUnlike(t, p, old, want)
			if got := made(p, old, unlike); !bytes.Equal(got, want) {
				t.Fatalf("%v: Unlike come to %v, want %v", p, got, want)
			}
			if len(unlike) > len(changes) {
				t.Fatalf("%v: %d cells are unlike behind %d changes", p, len(unlike), len(changes))
			}
			if again := checkUnlike(t, p, made(p, old, changes), made(p, old, unlike)); len(again) != 0 {
				t.Fatalf("%v: behind both %v are unlike", p, again)
			}
		}
	}
}
