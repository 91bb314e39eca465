package desc

import (
	"bytes"
	"math"
	"slices"
	"strconv"
	"testing"

	"twoslot/api"
)

// most is the document's greatest version, not api's name of it.
const most = 1073741824

func exampleP() api.Params { return api.Params{K: 4, R: 2, Cell: 16, Rows: 32} }

// few are parameters with the fewest data cells, bytes of a cell and rows, with the most, and with some between; objects of some are never so long that they have leaves, of others Most is just MaxObject, or less.
func few() []api.Params {
	return []api.Params{
		exampleP(),
		{K: 1, R: 0, Cell: 32, Rows: 8},
		{K: 4, R: 0, Cell: 8, Rows: 256},
		{K: 1, R: 4, Cell: 64, Rows: 9},
		{K: 12, R: 4, Cell: 64, Rows: 256},
		{K: 12, R: 0, Cell: 8, Rows: 8},
		{K: 3, R: 1, Cell: 11, Rows: 255},
		{K: 10, R: 1, Cell: 11, Rows: 200},
		{K: 9, R: 3, Cell: 12, Rows: 77},
		{K: 7, R: 2, Cell: 64, Rows: 100},
	}
}

// every calls visit with every K and Cell that may be; R and Rows go through their edges on the way.
func every(visit func(p api.Params)) {
	turn := 0
	for k := 1; k <= 12; k++ {
		for cell := 8; cell <= 64; cell++ {
			if k*cell >= 32 {
				visit(api.Params{K: k, R: turn % 5, Cell: cell, Rows: []int{8, 9, 255, 256}[turn%4]})
				turn++
			}
		}
	}
}

// wrongParams has wrong numbers at every place.
func wrongParams(visit func(p api.Params)) {
	for _, p := range few() {
		for _, wrong := range []int{-1, math.MinInt, math.MaxInt, 257, 1 << 32, -1 << 32, 1 << 62} {
			for _, place := range []*int{&p.K, &p.R, &p.Cell, &p.Rows} {
				right := *place
				*place = wrong
				visit(p)
				*place = right + 1<<32
				visit(p)
				*place = right
			}
		}
	}
	for _, p := range []api.Params{{}, {K: 0, R: 3, Cell: 16, Rows: 8}, {K: 13, R: 0, Cell: 16, Rows: 8}, {K: 2, R: 5, Cell: 16, Rows: 8}, {K: 2, R: 1, Cell: 15, Rows: 8}, {K: 12, R: 1, Cell: 7, Rows: 8}, {K: 2, R: 1, Cell: 65, Rows: 8}, {K: 4, R: 2, Cell: 16, Rows: 7}, {K: 4, R: 2, Cell: 16, Rows: 257}} {
		visit(p)
	}
}

// dice makes numbers that are the same in every run.
type dice uint64

func (d *dice) below(many int) int {
	*d = *d*6364136223846793005 + 1442695040888963407
	return int(uint64(*d)>>33) % many
}

func filled(many int, value byte) []byte { return bytes.Repeat([]byte{value}, many) }

// measures are the numbers that hang on parameters alone.
type measures struct{ width, direct, leaf, most int }

// fit counts how many refs of 6 bytes there is room for.
func fit(room int) int {
	many := 0
	for ; room >= 6; room -= 6 {
		many++
	}
	return many
}

// measured is made of the document's words, without layout.
func measured(p api.Params) measures {
	m := measures{width: p.K * p.Cell}
	m.direct, m.leaf = fit(m.width-7), fit(m.width)
	m.most = min(32768, m.direct*m.leaf*m.width)
	return m
}

// needed counts how many parts of a size hold all.
func needed(all, size int) int {
	many := 0
	for held := 0; held < all; held += size {
		many++
	}
	return many
}

// shaped is the Depth of an object of a length that may be, and how many Refs its descriptor has.
func shaped(p api.Params, length int) (depth, many int) {
	m := measured(p)
	stripes := needed(length, m.width)
	if stripes > m.direct {
		return 1, needed(stripes, m.leaf)
	}
	return 0, stripes
}

// lengths are those at the edges that objects may have: rising, each once.
func lengths(p api.Params) []int {
	m := measured(p)
	all := []int{0, 1, 2, 255, 256, 257, 258, m.most - 1, m.most, m.most / 2}
	for _, edge := range []int{1, 2, 3, m.direct - 1, m.direct, m.direct + 1, m.leaf, m.leaf + 1, 2 * m.leaf, 3 * m.leaf, (m.direct - 1) * m.leaf} {
		all = append(all, edge*m.width-1, edge*m.width, edge*m.width+1)
	}
	slices.Sort(all)
	return slices.DeleteFunc(slices.Compact(all), func(length int) bool { return length > m.most })
}

// ofMany are so many Refs that may be, by turns unlike.
func ofMany(p api.Params, many, turn int) []api.Ref {
	throw := dice(turn)
	refs := make([]api.Ref, many)
	for i := range refs {
		switch turn {
		case 0: // alike, and the least
			refs[i] = api.Ref{Row: 0, Version: 1}
		case 1: // alike, and the greatest
			refs[i] = api.Ref{Row: p.Rows - 1, Version: most}
		case 2: // each byte of a version counts
			refs[i] = api.Ref{Row: i % p.Rows, Version: []int{0x01020304, 0x3fffffff, 0x00ff00ff, 0x3f00ff00, 255, 256, 65535, 65536, 1<<24 - 1, 1 << 24}[i%10]}
		case 3: // no two alike
			refs[i] = api.Ref{Row: (p.Rows - 1 - i%p.Rows), Version: i + 1}
		default:
			refs[i] = api.Ref{Row: throw.below(p.Rows), Version: 1 + throw.below(most)}
		}
	}
	return refs
}

const turns = 6 // of ofMany, that tests go through

// descs calls visit with descriptors that may be: of all lengths at the edges.
func descs(p api.Params, visit func(d api.Desc)) {
	for _, length := range lengths(p) {
		depth, many := shaped(p, length)
		for turn := range turns {
			visit(api.Desc{Length: length, Depth: depth, Refs: ofMany(p, many, turn)})
		}
	}
}

// descOf is a descriptor of a length that may be.
func descOf(p api.Params, length, turn int) api.Desc {
	depth, many := shaped(p, length)
	return api.Desc{Length: length, Depth: depth, Refs: ofMany(p, many, turn)}
}

// rights are some descriptors that may be: without Refs, with one, with several, with as many as there is room for, with leaves (if objects have them by these parameters).
func rights(p api.Params) []api.Desc {
	m := measured(p)
	all := []api.Desc{{}, descOf(p, 1, 2), descOf(p, m.width+1, 3), descOf(p, m.most, 4)}
	if full := m.direct * m.width; full < m.most {
		all = append(all, descOf(p, full, 5), descOf(p, full+1, 2))
	}
	return all
}

// leaves calls visit with Refs of a leaf: one, two, all but one, all.
func leaves(p api.Params, visit func(l []api.Ref)) {
	m := measured(p)
	for _, many := range []int{1, 2, m.leaf / 2, m.leaf - 1, m.leaf} {
		for turn := range turns {
			visit(ofMany(p, many, turn))
		}
	}
}

// wantMayRef is the document's rule of which Refs may be.
func wantMayRef(p api.Params, r api.Ref) bool {
	return r.Row > -1 && r.Row <= p.Rows-1 && r.Version > 0 && r.Version <= most
}

// wantMay is the document's rule of which descriptors may be, thing by thing.
func wantMay(p api.Params, d api.Desc) bool {
	if d.Length <= -1 || d.Length > measured(p).most {
		return false
	}
	if depth, many := shaped(p, d.Length); d.Depth != depth || len(d.Refs) != many {
		return false
	}
	for _, r := range d.Refs {
		if !wantMayRef(p, r) {
			return false
		}
	}
	return true
}

// four is a number in four bytes, made by dividing.
func four(number int) []byte {
	return []byte{byte(number / 16777216), byte(number / 65536 % 256), byte(number / 256 % 256), byte(number % 256)}
}

// refBytesOf are Refs one behind the other.
func refBytesOf(refs []api.Ref) []byte {
	var made []byte
	for _, r := range refs {
		made = append(made, byte(r.Row/256), byte(r.Row%256))
		made = append(made, four(r.Version)...)
	}
	return made
}

// up is bytes with bytes 0 behind them up to the width; longer ones stay as they are.
func up(p api.Params, b []byte) []byte {
	for len(b) < p.K*p.Cell {
		b = append(b, 0)
	}
	return b
}

func wantBytes(p api.Params, d api.Desc) []byte {
	made := append(four(d.Length), byte(d.Depth), byte(len(d.Refs)/256), byte(len(d.Refs)%256))
	return up(p, append(made, refBytesOf(d.Refs)...))
}

func wantLeaf(p api.Params, l []api.Ref) []byte { return up(p, refBytesOf(l)) }

// numberOf is a number of some bytes, by multiplying.
func numberOf(b []byte) int {
	number := 0
	for _, digit := range b {
		number = number*256 + int(digit)
	}
	return number
}

// refsOf are so many Refs of bytes that have them.
func refsOf(b []byte, many int) []api.Ref {
	var refs []api.Ref
	for i := range many {
		at := b[6*i : 6*i+6]
		refs = append(refs, api.Ref{Row: numberOf(at[:2]), Version: numberOf(at[2:])})
	}
	return refs
}

// wantParse is the descriptor that bytes of the width are, if they are those of one that may be.
func wantParse(p api.Params, b []byte) (api.Desc, bool) {
	many := numberOf(b[5:7])
	if 7+6*many > len(b) {
		return api.Desc{}, false
	}
	d := api.Desc{Length: numberOf(b[:4]), Depth: int(b[4]), Refs: refsOf(b[7:], many)}
	return d, wantMay(p, d) && bytes.Equal(wantBytes(p, d), b)
}

// wantRefs are the Refs that bytes of the width are, if they are those of so many that may be.
func wantRefs(p api.Params, b []byte, many int) ([]api.Ref, bool) {
	refs := refsOf(b, many)
	for _, r := range refs {
		if !wantMayRef(p, r) {
			return nil, false
		}
	}
	return refs, bytes.Equal(wantLeaf(p, refs), b)
}

func sameDesc(d, other api.Desc) bool {
	return d.Length == other.Length && d.Depth == other.Depth && slices.Equal(d.Refs, other.Refs)
}

// zero tells whether a descriptor is the zero value.
func zero(d api.Desc) bool { return d.Length == 0 && d.Depth == 0 && d.Refs == nil }

func toldRefs(refs []api.Ref) string {
	text := ""
	for _, r := range refs {
		text += " " + strconv.Itoa(r.Row) + " at " + strconv.Itoa(r.Version) + ","
	}
	return text + " " + strconv.Itoa(len(refs)) + " refs"
}

func told(d api.Desc) string {
	return "length " + strconv.Itoa(d.Length) + " depth " + strconv.Itoa(d.Depth) + toldRefs(d.Refs)
}

// checkBytes tells that a descriptor may be, and what its bytes are.
func checkBytes(t *testing.T, p api.Params, d api.Desc, want []byte) {
	t.Helper()
	if err := Check(p, d); err != api.OK {
		t.Fatalf("%v: Check of %s is %d", p, told(d), err)
	}
	if got, err := Bytes(p, d); err != api.OK || !bytes.Equal(got, want) {
		t.Fatalf("%v: Bytes of %s is %v, %d, want %v", p, told(d), got, err, want)
	}
}

// refused tells that a descriptor may not be, and has no bytes.
func refused(t *testing.T, p api.Params, d api.Desc, want api.Errno) {
	t.Helper()
	if err := Check(p, d); err != want {
		t.Fatalf("%v: Check of %s is %d, want %d", p, told(d), err, want)
	}
	if got, err := Bytes(p, d); err != want || got != nil {
		t.Fatalf("%v: Bytes of %s is %v, %d, want nil, %d", p, told(d), got, err, want)
	}
}

func checkParse(t *testing.T, p api.Params, b []byte, want api.Desc) {
	t.Helper()
	if got, err := Parse(p, b); err != api.OK || !sameDesc(got, want) {
		t.Fatalf("%v: Parse of %v is %s, %d, want %s", p, b, told(got), err, told(want))
	}
}

func refusedParse(t *testing.T, p api.Params, b []byte, want api.Errno) {
	t.Helper()
	if got, err := Parse(p, b); err != want || !zero(got) {
		t.Fatalf("%v: Parse of %v is %s, %d, want zero, %d", p, b, told(got), err, want)
	}
}

// asWanted tells that Parse answers what the document's words make of bytes of the width.
func asWanted(t *testing.T, p api.Params, b []byte) {
	t.Helper()
	if d, is := wantParse(p, b); is {
		checkParse(t, p, b, d)
	} else {
		refusedParse(t, p, b, api.ErrDesc)
	}
}

func checkLeaf(t *testing.T, p api.Params, l []api.Ref, want []byte) {
	t.Helper()
	if got, err := Leaf(p, l); err != api.OK || !bytes.Equal(got, want) {
		t.Fatalf("%v: Leaf of%s is %v, %d, want %v", p, toldRefs(l), got, err, want)
	}
}

func refusedLeaf(t *testing.T, p api.Params, l []api.Ref, want api.Errno) {
	t.Helper()
	if got, err := Leaf(p, l); err != want || got != nil {
		t.Fatalf("%v: Leaf of %d refs is %v, %d, want nil, %d", p, len(l), got, err, want)
	}
}

func checkRefs(t *testing.T, p api.Params, b []byte, want []api.Ref) {
	t.Helper()
	if got, err := Refs(p, b, len(want)); err != api.OK || !slices.Equal(got, want) {
		t.Fatalf("%v: Refs of %v, %d is%s, %d, want%s", p, b, len(want), toldRefs(got), err, toldRefs(want))
	}
}

func refusedRefs(t *testing.T, p api.Params, b []byte, n int, want api.Errno) {
	t.Helper()
	if got, err := Refs(p, b, n); err != want || got != nil {
		t.Fatalf("%v: Refs of %d bytes, %d is%s, %d, want nil, %d", p, len(b), n, toldRefs(got), err, want)
	}
}

// refsAsWanted tells that Refs answers what the document's words make of bytes of the width.
func refsAsWanted(t *testing.T, p api.Params, b []byte, n int) {
	t.Helper()
	if refs, is := wantRefs(p, b, n); is {
		checkRefs(t, p, b, refs)
	} else {
		refusedRefs(t, p, b, n, api.ErrDesc)
	}
}
