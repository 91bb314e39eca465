package slot

import (
	"bytes"
	"math"
	"slices"
	"strconv"
	"testing"

	"twoslot/api"
)

// most is the document's greatest version, not api's name of it.
const most = 1073741824

func exampleP() api.Params { return api.Params{K: 2, R: 1, Cell: 16, Rows: 8} }

func exampleSlot() api.Slot {
	return api.Slot{Kind: 1, Index: 1, Cell: 5, Stripe: 7, Vector: []int{7, 5, 7}, Data: filled(16, 9)}
}

func exampleBytes() []byte {
	return append([]byte{84, 50, 1, 1, 0, 0, 0, 5, 0, 0, 0, 7, 0, 0, 0, 7, 0, 0, 0, 5, 0, 0, 0, 7}, filled(16, 9)...)
}

// few are parameters with the fewest drives and bytes of a cell, with the most, and with some between.
func few() []api.Params {
	return []api.Params{
		exampleP(),
		{K: 1, R: 0, Cell: 32, Rows: 8},
		{K: 4, R: 0, Cell: 8, Rows: 8},
		{K: 12, R: 4, Cell: 64, Rows: 256},
		{K: 12, R: 4, Cell: 8, Rows: 10},
		{K: 1, R: 4, Cell: 64, Rows: 9},
		{K: 3, R: 2, Cell: 11, Rows: 13},
	}
}

// every calls visit with every K, R and Cell that may be.
func every(visit func(p api.Params)) {
	for k := 1; k <= 12; k++ {
		for r := range 5 {
			for cell := 8; cell <= 64; cell++ {
				if k*cell >= 32 {
					visit(api.Params{K: k, R: r, Cell: cell, Rows: 8 + (k*cell+r)%249})
				}
			}
		}
	}
}

// wrongParams has wrong numbers at every place.
func wrongParams(visit func(p api.Params)) {
	for _, p := range few() {
		for _, wrong := range []int{-1, math.MinInt, math.MaxInt, 257, 1 << 32, -1 << 32, 1 << 62} {
			for _, place := range []*int{&p.K, &p.R, &p.Cell, &p.Rows} {
				right := *place
				*place = wrong
				visit(p)
				*place = right
			}
		}
	}
	for _, p := range []api.Params{{}, {K: 0, R: 3, Cell: 16, Rows: 8}, {K: 13, R: 0, Cell: 16, Rows: 8}, {K: 2, R: 5, Cell: 16, Rows: 8}, {K: 2, R: 1, Cell: 15, Rows: 8}, {K: 12, R: 1, Cell: 7, Rows: 8}, {K: 2, R: 1, Cell: 65, Rows: 8}, {K: 2, R: 1, Cell: 16, Rows: 7}} {
		visit(p)
	}
}

// wantSize is the document's size of a slot, by adding.
func wantSize(p api.Params) int {
	all := 12
	for range p.K {
		all += 4
	}
	for range p.R {
		all += 4
	}
	return all + p.Cell
}

func filled(many int, value byte) []byte { return bytes.Repeat([]byte{value}, many) }

// dice makes numbers that are the same in every run.
type dice uint64

func (d *dice) below(many int) int {
	*d = *d*6364136223846793005 + 1442695040888963407
	return int(uint64(*d)>>33) % many
}

// some are bytes, by seeds unlike.
func some(many, seed int) []byte {
	throw := dice(seed)
	made := make([]byte, many)
	for i := range made {
		made[i] = byte(throw.below(256))
	}
	return made
}

// greatest is the greatest number of a list.
func greatest(list []int) int {
	sorted := append([]int{}, list...)
	slices.Sort(sorted)
	return sorted[len(sorted)-1]
}

// same is a vector of one version.
func same(p api.Params, version int) []int {
	return slices.Repeat([]int{version}, p.K+p.R)
}

// with is a list with another number at a place.
func with(list []int, place, number int) []int {
	changed := append([]int{}, list...)
	changed[place] = number
	return changed
}

// slotOf is the slot of a vector whose Cell and Stripe fit to it.
func slotOf(kind uint8, index int, vector []int, data []byte) api.Slot {
	return api.Slot{Kind: kind, Index: index, Cell: vector[index], Stripe: greatest(vector), Vector: vector, Data: data}
}

// vectors are some that may be: 1 and MaxVersion at every place, the greatest one first, last and several times, versions each of whose bytes counts.
func vectors(p api.Params) [][]int {
	n := p.K + p.R
	all := [][]int{same(p, 1), same(p, 7), same(p, most), same(p, most-1)}
	rising, falling := same(p, 1), same(p, most)
	for i := range n {
		rising[i] += i
		falling[i] -= i
	}
	all = append(all, rising, falling)
	for place := range n {
		all = append(all, with(same(p, 1), place, most), with(same(p, most), place, 1), with(same(p, 3), place, 2), with(with(rising, place, 99), 0, 99))
	}
	for _, version := range []int{255, 256, 65535, 65536, 1<<24 - 1, 1 << 24, 0x01020304, 0x3fffffff, 0x00ff00ff, 0x3f00ff00} {
		all = append(all, same(p, version), with(same(p, 1), n-1, version))
	}
	for seed := range 4 {
		throw, v := dice(seed), same(p, 1)
		for i := range v {
			v[i] += throw.below(most)
		}
		all = append(all, v)
	}
	return all
}

// datas are bytes of a cell: all 0, all 255, and others.
func datas(p api.Params) [][]byte {
	last := make([]byte, p.Cell)
	last[p.Cell-1] = 1
	return [][]byte{make([]byte, p.Cell), filled(p.Cell, 255), last, some(p.Cell, p.Cell), some(p.Cell, 3)}
}

// slots calls visit with slots that may be: of both kinds, at every Index.
func slots(p api.Params, visit func(s api.Slot)) {
	data := datas(p)
	for turn, v := range vectors(p) {
		for index := range v {
			visit(slotOf(1, index, v, data[(turn+index)%len(data)]))
			visit(slotOf(2, index, v, data[(turn*3+index)%len(data)]))
		}
	}
}

// wantMay is the document's rule of which slots may be, thing by thing.
func wantMay(p api.Params, s api.Slot) bool {
	n := p.K + p.R
	if s.Kind != 1 && s.Kind != 2 || s.Index <= -1 || s.Index > n-1 || len(s.Vector) != n || len(s.Data) != p.Cell {
		return false
	}
	for _, version := range s.Vector {
		if version <= 0 || version > most {
			return false
		}
	}
	return s.Stripe == greatest(s.Vector) && s.Cell == s.Vector[s.Index]
}

// wantBytes is made by dividing.
func wantBytes(s api.Slot) []byte {
	made := []byte{'T', '2', s.Kind, byte(s.Index)}
	for _, number := range append([]int{s.Cell, s.Stripe}, s.Vector...) {
		made = append(made, byte(number/16777216), byte(number/65536%256), byte(number/256%256), byte(number%256))
	}
	return append(made, s.Data...)
}

// sameSlot tells whether two slots are the same, field by field.
func sameSlot(s, other api.Slot) bool {
	return s.Kind == other.Kind && s.Index == other.Index && s.Cell == other.Cell && s.Stripe == other.Stripe && slices.Equal(s.Vector, other.Vector) && bytes.Equal(s.Data, other.Data)
}

// zero tells whether a slot is the zero value.
func zero(s api.Slot) bool {
	return sameSlot(s, api.Slot{}) && s.Vector == nil && s.Data == nil
}

func told(s api.Slot) string {
	text := "kind " + strconv.Itoa(int(s.Kind)) + " index " + strconv.Itoa(s.Index) + " cell " + strconv.Itoa(s.Cell) + " stripe " + strconv.Itoa(s.Stripe) + " vector"
	for _, version := range s.Vector {
		text += " " + strconv.Itoa(version)
	}
	return text + " and " + strconv.Itoa(len(s.Data)) + " bytes"
}

func checkBytes(t *testing.T, p api.Params, s api.Slot, want []byte) {
	t.Helper()
	if got, err := Bytes(p, s); err != api.OK || !bytes.Equal(got, want) {
		t.Fatalf("%v: Bytes of %s is %v, %d, want %v", p, told(s), got, err, want)
	}
}

func refusedBytes(t *testing.T, p api.Params, s api.Slot, want api.Errno) {
	t.Helper()
	if got, err := Bytes(p, s); err != want || got != nil {
		t.Fatalf("%v: Bytes of %s is %v, %d, want nil, %d", p, told(s), got, err, want)
	}
}

func checkParse(t *testing.T, p api.Params, b []byte, want api.Slot) {
	t.Helper()
	if got, is, err := Parse(p, b); err != api.OK || !is || !sameSlot(got, want) {
		t.Fatalf("%v: Parse of %v is %s, %v, %d, want %s", p, b, told(got), is, err, told(want))
	}
}

// noSlot tells that bytes are none, without an error.
func noSlot(t *testing.T, p api.Params, b []byte) {
	t.Helper()
	if got, is, err := Parse(p, b); err != api.OK || is || !zero(got) {
		t.Fatalf("%v: Parse of %v is %s, %v, %d, want false and zero", p, b, told(got), is, err)
	}
}

func refusedParse(t *testing.T, p api.Params, b []byte, want api.Errno) {
	t.Helper()
	if got, is, err := Parse(p, b); err != want || is || !zero(got) {
		t.Fatalf("%v: Parse of %d bytes is %s, %v, %d, want zero, %d", p, len(b), told(got), is, err, want)
	}
}
