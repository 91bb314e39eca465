package image

import (
	"bytes"
	"math"
	"slices"
	"testing"

	"twoslot/api"
)

func exampleP() api.Params { return api.Params{K: 2, R: 1, Cell: 16, Rows: 8} }

// few are parameters with the fewest drives, rows and bytes of a cell, and with some between.
func few() []api.Params {
	return []api.Params{
		exampleP(),
		{K: 1, R: 0, Cell: 32, Rows: 8},
		{K: 4, R: 0, Cell: 8, Rows: 8},
		{K: 1, R: 4, Cell: 64, Rows: 9},
		{K: 3, R: 2, Cell: 11, Rows: 13},
		{K: 12, R: 4, Cell: 8, Rows: 10},
	}
}

// greatest has the most of all.
func greatest() api.Params { return api.Params{K: 12, R: 4, Cell: 64, Rows: 256} }

// wrongParams has wrong numbers at every place.
func wrongParams(visit func(p api.Params)) {
	for _, p := range append(few(), greatest()) {
		for _, wrong := range []int{-1, math.MinInt, math.MaxInt, 257, 1 << 32, -1 << 32, 1 << 62} {
			for _, place := range []*int{&p.K, &p.R, &p.Cell, &p.Rows} {
				right := *place
				*place = wrong
				visit(p)
				*place = right
			}
		}
	}
	for _, p := range []api.Params{{}, {K: 0, R: 3, Cell: 16, Rows: 8}, {K: 13, R: 0, Cell: 16, Rows: 8}, {K: 2, R: 5, Cell: 16, Rows: 8}, {K: 2, R: 1, Cell: 15, Rows: 8}, {K: 12, R: 1, Cell: 7, Rows: 8}, {K: 2, R: 1, Cell: 65, Rows: 8}, {K: 2, R: 1, Cell: 16, Rows: 7}} {
		visit(p)
	}
}

// wrongNumbers can't number any of many things.
func wrongNumbers(many int) []int {
	return []int{-1, -2, -many, math.MinInt, math.MinInt + 1, many, many + 1, 2 * many, 1 << 32, 1 << 62, math.MaxInt - 1, math.MaxInt}
}

// size is the document's size of a slot, by adding.
func size(p api.Params) int {
	all := 12
	for range p.K {
		all += 4
	}
	for range p.R {
		all += 4
	}
	return all + p.Cell
}

func filled(many int, value byte) []byte { return bytes.Repeat([]byte{value}, many) }

// dice makes numbers that are the same in every run.
type dice uint64

func (d *dice) below(many int) int {
	*d = *d*6364136223846793005 + 1442695040888963407
	return int(uint64(*d)>>33) % many
}

// some is a slot's bytes, by seeds unlike.
func some(p api.Params, seed int) []byte {
	throw := dice(seed)
	made := make([]byte, size(p))
	for i := range made {
		made[i] = byte(throw.below(256))
	}
	made[0], made[1] = byte(seed), byte(seed>>8)
	return made
}

// place is a slot.
type place struct{ drive, row, slot int }

// places are all slots, in the order of an image.
func places(p api.Params) []place {
	var all []place
	for drive := range p.K + p.R {
		for row := range p.Rows {
			all = append(all, place{drive, row, 0}, place{drive, row, 1})
		}
	}
	return all
}

// edges are the slots of the first and of the last drive and row.
func edges(p api.Params) []place {
	var all []place
	for _, drive := range []int{0, p.K + p.R - 1} {
		for _, row := range []int{0, p.Rows - 1} {
			all = append(all, place{drive, row, 0}, place{drive, row, 1})
		}
	}
	return all
}

func (a place) put(held []byte) api.Put {
	return api.Put{Drive: a.drive, Row: a.row, Slot: a.slot, Bytes: held}
}

// mirror is what an image must be, kept by places; a blank slot is not in it.
type mirror struct {
	p    api.Params
	held map[place]string
}

func mirrorOf(m api.Image) mirror {
	made := mirror{p: m.P, held: map[place]string{}}
	for i, a := range places(m.P) {
		if len(m.Slots[i]) > 0 {
			made.held[a] = string(m.Slots[i])
		}
	}
	return made
}

// behind is a mirror behind raw writes that may be.
func (m mirror) behind(l ...api.Put) mirror {
	made := m.without(-1)
	for _, x := range l {
		made.held[place{x.Drive, x.Row, x.Slot}] = string(x.Bytes)
	}
	return made
}

// without is a mirror without what a drive holds.
func (m mirror) without(drive int) mirror {
	made := mirror{p: m.p, held: map[place]string{}}
	for a, held := range m.held {
		if a.drive != drive {
			made.held[a] = held
		}
	}
	return made
}

// check holds an image that is answered to a mirror.
func check(t *testing.T, m api.Image, err api.Errno, want mirror) {
	t.Helper()
	all := places(want.p)
	if err != api.OK || m.P != want.p || len(m.Slots) != len(all) {
		t.Fatalf("it is %v with %d slots, %d, want %v with %d", m.P, len(m.Slots), err, want.p, len(all))
	}
	for i, a := range all {
		if string(m.Slots[i]) != want.held[a] {
			t.Fatalf("%v: %v holds %v, want %v", want.p, a, m.Slots[i], []byte(want.held[a]))
		}
	}
}

// refused tells that an image and an error are the error alone.
func refused(t *testing.T, m api.Image, err, want api.Errno) {
	t.Helper()
	if m.P != (api.Params{}) || m.Slots != nil || err != want {
		t.Fatalf("it is %v with %d slots, %d, want no image and %d", m.P, len(m.Slots), err, want)
	}
}

// patterns are images of parameters: blank ones by nil and by none, written ones, some of both.
func patterns(p api.Params) []api.Image {
	var all []api.Image
	many := len(places(p))
	for _, written := range []func(i int) bool{
		func(i int) bool { return false },
		func(i int) bool { return true },
		func(i int) bool { return i == 0 },
		func(i int) bool { return i == many-1 },
		func(i int) bool { return i%2 == 0 },
		func(i int) bool { return i%7 == 3 },
	} {
		m := api.Image{P: p}
		for i := range many {
			switch {
			case written(i):
				m.Slots = append(m.Slots, some(p, i))
			case i%4 < 2:
				m.Slots = append(m.Slots, nil)
			default:
				m.Slots = append(m.Slots, []byte{})
			}
		}
		all = append(all, m)
	}
	return all
}

// full is an image all of whose slots are written.
func full(p api.Params) api.Image { return patterns(p)[1] }

// mixed is an image some of whose slots are written.
func mixed(p api.Params) api.Image { return patterns(p)[4] }

// wrongImages are images that may not be though their parameters may.
func wrongImages(p api.Params) []api.Image {
	right := mixed(p)
	many := len(right.Slots)
	var all []api.Image
	for _, count := range []int{0, 1, many / 2, many - 2, many - 1} {
		all = append(all, api.Image{P: p, Slots: right.Slots[:count]})
	}
	all = append(all,
		api.Image{P: p},
		api.Image{P: p, Slots: append(slices.Clone(right.Slots), nil)},
		api.Image{P: p, Slots: append(slices.Clone(right.Slots), right.Slots...)})
	for _, i := range []int{0, 1, many / 2, many - 2, many - 1} {
		for _, count := range []int{1, p.Cell, size(p) - 1, size(p) + 1, 2 * size(p)} {
			m := api.Image{P: p, Slots: slices.Clone(right.Slots)}
			m.Slots[i] = filled(count, 1)
			all = append(all, m)
		}
	}
	return all
}

// wrongPuts are raw writes that may not be, each by one thing.
func wrongPuts(p api.Params) []api.Put {
	right := some(p, 3)
	var all []api.Put
	for _, a := range []place{{}, {p.K + p.R - 1, p.Rows - 1, 1}} {
		for _, drive := range wrongNumbers(p.K + p.R) {
			all = append(all, place{drive, a.row, a.slot}.put(right))
		}
		for _, row := range wrongNumbers(p.Rows) {
			all = append(all, place{a.drive, row, a.slot}.put(right))
		}
		for _, slot := range wrongNumbers(2) {
			all = append(all, place{a.drive, a.row, slot}.put(right))
		}
		for _, many := range []int{0, 1, p.Cell, len(right) - 1, len(right) + 1, 2 * len(right), 1 << 16, 1<<16 + 1} {
			all = append(all, a.put(filled(many, 1)))
		}
		all = append(all, a.put(nil))
	}
	return all
}

// series are raw writes here and there, some of them to the same slots.
func series(p api.Params, seed, many int) []api.Put {
	throw, all := dice(seed), places(p)
	var l []api.Put
	for i := range many {
		a := all[throw.below(len(all))]
		if i > 0 && throw.below(4) == 0 {
			a = place{l[i-1].Drive, l[i-1].Row, l[i-1].Slot}
		}
		l = append(l, a.put(some(p, seed*1000+i+1)))
	}
	return l
}

// samePuts tells whether two lists of raw writes tell the same.
func samePuts(l, other []api.Put) bool {
	return slices.EqualFunc(l, other, func(x, y api.Put) bool {
		return x.Drive == y.Drive && x.Row == y.Row && x.Slot == y.Slot && bytes.Equal(x.Bytes, y.Bytes)
	})
}
