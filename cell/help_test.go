package cell

import (
	"bytes"
	"math"
	"slices"
	"strconv"
	"testing"

	"twoslot/api"
)

// most is the document's greatest version, not api's name of it.
const most = 1073741824

func exampleP() api.Params { return api.Params{K: 2, R: 1, Cell: 16, Rows: 8} }

// few are parameters with the fewest drives and bytes of a cell, with the most, and with some between.
func few() []api.Params {
	return []api.Params{
		exampleP(),
		{K: 1, R: 0, Cell: 32, Rows: 8},
		{K: 4, R: 0, Cell: 8, Rows: 8},
		{K: 12, R: 4, Cell: 64, Rows: 256},
		{K: 12, R: 4, Cell: 8, Rows: 10},
		{K: 3, R: 2, Cell: 11, Rows: 13},
	}
}

// every calls visit with every K, R and Cell that may be.
func every(visit func(p api.Params)) {
	for k := 1; k <= 12; k++ {
		for r := range 5 {
			for cell := 8; cell <= 64; cell++ {
				if k*cell >= 32 {
					visit(api.Params{K: k, R: r, Cell: cell, Rows: 8 + (k*cell+r)%249})
				}
			}
		}
	}
}

// wrongParams has wrong numbers at every place.
func wrongParams(visit func(p api.Params)) {
	for _, p := range few() {
		for _, wrong := range []int{-1, math.MinInt, math.MaxInt, 257, 1 << 32, -1 << 32, 1 << 62} {
			for _, place := range []*int{&p.K, &p.R, &p.Cell, &p.Rows} {
				right := *place
				*place = wrong
				visit(p)
				*place = right + 1<<32
				visit(p)
				*place = right
			}
		}
	}
	for _, p := range []api.Params{{}, {K: 0, R: 3, Cell: 16, Rows: 8}, {K: 13, R: 0, Cell: 16, Rows: 8}, {K: 2, R: 5, Cell: 16, Rows: 8}, {K: 2, R: 1, Cell: 15, Rows: 8}, {K: 12, R: 1, Cell: 7, Rows: 8}, {K: 2, R: 1, Cell: 65, Rows: 8}, {K: 2, R: 1, Cell: 16, Rows: 7}} {
		visit(p)
	}
}

func filled(many int, value byte) []byte { return bytes.Repeat([]byte{value}, many) }

// dice makes numbers that are the same in every run.
type dice uint64

func (d *dice) below(many int) int {
	*d = *d*6364136223846793005 + 1442695040888963407
	return int(uint64(*d)>>33) % many
}

// some are bytes, by seeds unlike.
func some(many, seed int) []byte {
	throw := dice(seed)
	made := make([]byte, many)
	for i := range made {
		made[i] = byte(throw.below(256))
	}
	return made
}

// same is a vector of one version.
func same(p api.Params, version int) []int {
	return slices.Repeat([]int{version}, p.K+p.R)
}

// with is a list with another number at a place.
func with(list []int, place, number int) []int {
	changed := append([]int{}, list...)
	changed[place] = number
	return changed
}

// slotOf is the slot of a vector whose Cell and Stripe fit to it.
func slotOf(kind uint8, index int, vector []int, data []byte) api.Slot {
	return api.Slot{Kind: kind, Index: index, Cell: vector[index], Stripe: slices.Max(vector), Vector: vector, Data: data}
}

// plain is a slot that has one version everywhere.
func plain(p api.Params, kind uint8, index, version int) api.Slot {
	return slotOf(kind, index, same(p, version), some(p.Cell, version+1000*index+int(kind)))
}

// bytesOf is a slot's bytes, made by dividing.
func bytesOf(s api.Slot) []byte {
	made := []byte{'T', '2', s.Kind, byte(s.Index)}
	for _, number := range append([]int{s.Cell, s.Stripe}, s.Vector...) {
		made = append(made, byte(number/16777216), byte(number/65536%256), byte(number/256%256), byte(number%256))
	}
	return append(made, s.Data...)
}

// content is what a slot has: bytes, and the slot that they are (kind 0: none), which is known as they were made of it.
type content struct {
	bytes []byte
	slot  api.Slot
}

func contentOf(s api.Slot) content { return content{bytesOf(s), s} }

// holds tells whether it is a slot of a kind, an index and a version.
func (c content) holds(kind uint8, index, version int) bool {
	return c.slot.Kind == kind && c.slot.Index == index && c.slot.Cell == version && kind != 0
}

// cell is a pair of contents.
type cell [2]content

func (c cell) pair() api.Pair { return api.Pair{c[0].bytes, c[1].bytes} }

// wantFind is the document's answer: the slot 0 is asked first.
func (c cell) wantFind(kind uint8, index, version int) (int, bool) {
	if c[0].holds(kind, index, version) {
		return 0, true
	}
	if c[1].holds(kind, index, version) {
		return 1, true
	}
	return 0, false
}

// wantNewest is the document's answer, case by case.
func (c cell) wantNewest(kind uint8, index int) (int, bool) {
	zero, one := c[0].holds(kind, index, c[0].slot.Cell), c[1].holds(kind, index, c[1].slot.Cell)
	switch {
	case zero && one && c[0].slot.Cell >= c[1].slot.Cell:
		return 0, true
	case zero && one:
		return 1, true
	case one:
		return 1, true
	}
	return 0, zero
}

// wantOlder is the document's answer, sentence by sentence.
func (c cell) wantOlder(kind uint8, index, keep int) int {
	if number, is := c.wantFind(kind, index, keep); keep != 0 && is {
		return 1 - number
	}
	for number, held := range c {
		if held.slot.Kind == 0 || held.slot.Index != index {
			return number
		}
	}
	if c[1].slot.Cell < c[0].slot.Cell {
		return 1
	}
	return 0
}

// noSlots are contents of a slot's size, or blank, that are no slot.
func noSlots(p api.Params, index int) []content {
	right := bytesOf(plain(p, 1, index, 5))
	all := []content{{}, {bytes: []byte{}}, {bytes: make([]byte, len(right))}, {bytes: filled(len(right), 255)}}
	spoil := func(place int, value byte) {
		b := bytes.Clone(right)
		b[place] = value
		all = append(all, content{bytes: b})
	}
	for place := range 12 + 4*(p.K+p.R) {
		switch {
		case place == 2: // the kind
			for _, value := range []byte{0, 3, 129, 255} {
				spoil(place, value)
			}
		case place == 3: // the index
			spoil(place, byte(p.K+p.R))
			spoil(place, 255)
		default:
			spoil(place, right[place]+1)
		}
	}
	return all
}

// somes are contents of all sorts for a drive: none, both kinds, its own index and others', versions alike and unlike, Cells that are not the Stripe.
func somes(p api.Params, index int) []content {
	n := p.K + p.R
	all := []content{{}, {bytes: filled(12+4*n+p.Cell, 255)}}
	for _, kind := range []uint8{1, 2} {
		for _, version := range []int{1, 3, 5, most} {
			all = append(all, contentOf(plain(p, kind, index, version)))
		}
		all = append(all, contentOf(slotOf(kind, index, same(p, 5), some(p.Cell, 77)))) // other data
		if n == 1 {
			continue
		}
		other := (index + 1) % n
		for _, version := range []int{1, 3, 7} {
			all = append(all, contentOf(plain(p, kind, other, version)))
		}
		all = append(all,
			contentOf(slotOf(kind, index, with(same(p, 9), index, 3), some(p.Cell, 9))),
			contentOf(slotOf(kind, index, with(same(p, 3), other, most), some(p.Cell, 8))),
			contentOf(slotOf(kind, other, with(same(p, 9), other, 5), some(p.Cell, 7))))
	}
	return all
}

// indices are the first, the last and one between.
func indices(p api.Params) []int {
	return slices.Compact([]int{0, (p.K + p.R) / 2, p.K + p.R - 1})
}

// cells calls visit with every pair of some contents, by few parameters and some indices.
func cells(visit func(p api.Params, c cell, index int)) {
	for _, p := range few() {
		for _, index := range indices(p) {
			all := somes(p, index)
			for _, first := range all {
				for _, second := range all {
					visit(p, cell{first, second}, index)
				}
			}
		}
	}
}

// versions are those that are asked for: held ones, others, and ones that are alike in their last bytes.
func versions() []int {
	return []int{1, 2, 3, 4, 5, 7, 9, 255, 256, 256 + 3, 256 + 5, 65536 + 5, 1<<24 + 3, most - 1, most}
}

// sameSlot tells whether two slots are the same, field by field.
func sameSlot(s, other api.Slot) bool {
	return s.Kind == other.Kind && s.Index == other.Index && s.Cell == other.Cell && s.Stripe == other.Stripe && slices.Equal(s.Vector, other.Vector) && bytes.Equal(s.Data, other.Data)
}

// zero tells whether a slot is the zero value.
func zero(s api.Slot) bool {
	return sameSlot(s, api.Slot{}) && s.Vector == nil && s.Data == nil
}

func told(s api.Slot) string {
	text := "kind " + strconv.Itoa(int(s.Kind)) + " index " + strconv.Itoa(s.Index) + " cell " + strconv.Itoa(s.Cell) + " stripe " + strconv.Itoa(s.Stripe) + " vector"
	for _, version := range s.Vector {
		text += " " + strconv.Itoa(version)
	}
	return text + " and " + strconv.Itoa(len(s.Data)) + " bytes"
}

func (c cell) told() string { return "(" + told(c[0].slot) + "; " + told(c[1].slot) + ")" }

// answered tells whether a call told a slot of a pair, or none.
func (c cell) answered(number int, s api.Slot, is bool, want int, wantIs bool) bool {
	if !wantIs {
		return number == 0 && zero(s) && !is
	}
	return number == want && sameSlot(s, c[want].slot) && is
}

func checkFind(t *testing.T, p api.Params, c cell, kind uint8, index, version int) {
	t.Helper()
	want, wantIs := c.wantFind(kind, index, version)
	number, s, is, err := Find(p, c.pair(), kind, index, version)
	if err != api.OK || !c.answered(number, s, is, want, wantIs) {
		t.Fatalf("%v: Find in %s of kind %d, index %d, version %d is %d, %s, %v, %d, want %d, %v", p, c.told(), kind, index, version, number, told(s), is, err, want, wantIs)
	}
}

func checkNewest(t *testing.T, p api.Params, c cell, kind uint8, index int) {
	t.Helper()
	want, wantIs := c.wantNewest(kind, index)
	number, s, is, err := Newest(p, c.pair(), kind, index)
	if err != api.OK || !c.answered(number, s, is, want, wantIs) {
		t.Fatalf("%v: Newest in %s of kind %d, index %d is %d, %s, %v, %d, want %d, %v", p, c.told(), kind, index, number, told(s), is, err, want, wantIs)
	}
}

func checkOlder(t *testing.T, p api.Params, c cell, kind uint8, index, keep int) {
	t.Helper()
	want := c.wantOlder(kind, index, keep)
	if number, err := Older(p, c.pair(), kind, index, keep); err != api.OK || number != want {
		t.Fatalf("%v: Older in %s of kind %d, index %d, keep %d is %d, %d, want %d", p, c.told(), kind, index, keep, number, err, want)
	}
}

func refusedFind(t *testing.T, p api.Params, two api.Pair, kind uint8, index, version int, want api.Errno) {
	t.Helper()
	if number, s, is, err := Find(p, two, kind, index, version); err != want || number != 0 || is || !zero(s) {
		t.Fatalf("%v: Find in %d and %d bytes of kind %d, index %d, version %d is %d, %s, %v, %d, want zero, %d", p, len(two[0]), len(two[1]), kind, index, version, number, told(s), is, err, want)
	}
}

func refusedNewest(t *testing.T, p api.Params, two api.Pair, kind uint8, index int, want api.Errno) {
	t.Helper()
	if number, s, is, err := Newest(p, two, kind, index); err != want || number != 0 || is || !zero(s) {
		t.Fatalf("%v: Newest in %d and %d bytes of kind %d, index %d is %d, %s, %v, %d, want zero, %d", p, len(two[0]), len(two[1]), kind, index, number, told(s), is, err, want)
	}
}

func refusedOlder(t *testing.T, p api.Params, two api.Pair, kind uint8, index, keep int, want api.Errno) {
	t.Helper()
	if number, err := Older(p, two, kind, index, keep); err != want || number != 0 {
		t.Fatalf("%v: Older in %d and %d bytes of kind %d, index %d, keep %d is %d, %d, want 0, %d", p, len(two[0]), len(two[1]), kind, index, keep, number, err, want)
	}
}

// refusedAll tells that all calls are refused, whatever version is right or wrong.
func refusedAll(t *testing.T, p api.Params, two api.Pair, kind uint8, index, version int, want api.Errno) {
	t.Helper()
	refusedFind(t, p, two, kind, index, version, want)
	refusedNewest(t, p, two, kind, index, want)
	refusedOlder(t, p, two, kind, index, version, want)
}
