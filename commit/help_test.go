package commit

import (
	"bytes"
	"math"
	"slices"
	"strconv"

	"twoslot/api"
)

// most is the document's greatest version, not api's name of it.
const most = 1073741824

func exampleP() api.Params { return api.Params{K: 2, R: 1, Cell: 16, Rows: 8} }

// few are parameters with the fewest drives, bytes of a cell and rows, with the most, without parity, with more parity than data, and with some between.
func few() []api.Params {
	return []api.Params{
		exampleP(),
		{K: 1, R: 0, Cell: 32, Rows: 8},
		{K: 1, R: 4, Cell: 64, Rows: 9},
		{K: 4, R: 0, Cell: 8, Rows: 256},
		{K: 12, R: 4, Cell: 64, Rows: 256},
		{K: 12, R: 0, Cell: 8, Rows: 10},
		{K: 3, R: 2, Cell: 11, Rows: 13},
	}
}

// every calls visit with every K, R and Cell that may be.
func every(visit func(p api.Params)) {
	for k := 1; k <= 12; k++ {
		for r := range 5 {
			for cell := 8; cell <= 64; cell++ {
				if k*cell >= 32 {
					visit(api.Params{K: k, R: r, Cell: cell, Rows: 8 + (k*cell+r)%249})
				}
			}
		}
	}
}

// wrongParams has wrong numbers at every place.
func wrongParams(visit func(p api.Params)) {
	for _, p := range few() {
		for _, wrong := range []int{-1, math.MinInt, math.MaxInt, 257, 1 << 32, -1 << 32, 1 << 62} {
			for _, place := range []*int{&p.K, &p.R, &p.Cell, &p.Rows} {
				right := *place
				*place = wrong
				visit(p)
				*place = right + 1<<32
				visit(p)
				*place = right
			}
		}
	}
	for _, p := range []api.Params{{}, {K: 0, R: 3, Cell: 16, Rows: 8}, {K: 13, R: 0, Cell: 16, Rows: 8}, {K: 2, R: 5, Cell: 16, Rows: 8}, {K: 2, R: 1, Cell: 15, Rows: 8}, {K: 12, R: 1, Cell: 7, Rows: 8}, {K: 2, R: 1, Cell: 65, Rows: 8}, {K: 2, R: 1, Cell: 16, Rows: 7}, {K: 2, R: 1, Cell: 16, Rows: 257}} {
		visit(p)
	}
}

func filled(many int, value byte) []byte { return bytes.Repeat([]byte{value}, many) }

// dice makes numbers that are the same in every run.
type dice uint64

func (d *dice) below(many int) int {
	*d = *d*6364136223846793005 + 1442695040888963407
	return int(uint64(*d)>>33) % many
}

// one is some element of a list.
func one[T any](d *dice, of []T) T { return of[d.below(len(of))] }

// some are bytes, by seeds unlike.
func some(many, seed int) []byte {
	throw := dice(seed)
	made := make([]byte, many)
	for i := range made {
		made[i] = byte(throw.below(256))
	}
	return made
}

// upTo are the numbers from one to below another.
func upTo(from, below int) []int {
	var all []int
	for number := from; number < below; number++ {
		all = append(all, number)
	}
	return all
}

// choices calls visit with every choice of so many numbers below n.
func choices(n, many int, visit func(chosen []int)) {
	var choose func(chosen []int, from int)
	choose = func(chosen []int, from int) {
		if len(chosen) == many {
			visit(chosen)
			return
		}
		for number := from; number < n; number++ {
			choose(append(chosen, number), number+1)
		}
	}
	choose(make([]int, 0, many), 0)
}

// wipes calls visit with every choice of at most R drives, none with them.
func wipes(p api.Params, visit func(wiped []int)) {
	for many := range p.R + 1 {
		choices(p.K+p.R, many, visit)
	}
}

// measures are the numbers that hang on parameters alone.
type measures struct{ width, direct, leaf, most int }

// measured is made of the document's words, without layout.
func measured(p api.Params) measures {
	m := measures{width: p.K * p.Cell}
	m.direct, m.leaf = (m.width-7)/6, m.width/6
	m.most = min(32768, m.direct*m.leaf*m.width)
	return m
}

// needed counts how many parts of a size hold all.
func needed(all, size int) int {
	many := 0
	for held := 0; held < all; held += size {
		many++
	}
	return many
}

// shaped is the Depth of an object of a length that may be, and how many Refs its descriptor has.
func shaped(p api.Params, length int) (depth, many int) {
	m := measured(p)
	stripes := needed(length, m.width)
	if stripes > m.direct {
		return 1, needed(stripes, m.leaf)
	}
	return 0, stripes
}

// descOf is a descriptor of a length that may be, by seeds unlike.
func descOf(p api.Params, length, seed int) api.Desc {
	depth, many := shaped(p, length)
	d, throw := api.Desc{Length: length, Depth: depth}, dice(seed)
	for range many {
		d.Refs = append(d.Refs, api.Ref{Row: throw.below(p.Rows), Version: 1 + throw.below(most)})
	}
	return d
}

// descs are some descriptors that may be: of the length 0, with one Ref, with several, of Direct stripes, of one more, with the greatest Refs, of Most.
func descs(p api.Params) []api.Desc {
	m := measured(p)
	full := min(m.most, m.direct*m.width)
	all := []api.Desc{{}, {Refs: []api.Ref{}}, descOf(p, 1, 2), descOf(p, m.width+1, 3), descOf(p, full, 5), descOf(p, min(m.most, full+1), 6), descOf(p, m.most, 7)}
	greatest := descOf(p, m.most, 7)
	for i := range greatest.Refs {
		greatest.Refs[i] = api.Ref{Row: p.Rows - 1, Version: most}
	}
	return append(all, greatest)
}

// wantMay is the document's rule of which descriptors may be, thing by thing.
func wantMay(p api.Params, d api.Desc) bool {
	if d.Length < 0 || d.Length > measured(p).most {
		return false
	}
	if depth, many := shaped(p, d.Length); d.Depth != depth || len(d.Refs) != many {
		return false
	}
	return !slices.ContainsFunc(d.Refs, func(r api.Ref) bool {
		return r.Row < 0 || r.Row > p.Rows-1 || r.Version < 1 || r.Version > most
	})
}

// four is a number in four bytes, made by dividing.
func four(number int) []byte {
	return []byte{byte(number / 16777216), byte(number / 65536 % 256), byte(number / 256 % 256), byte(number % 256)}
}

// wantBytes is a descriptor as bytes, up to the width.
func wantBytes(p api.Params, d api.Desc) []byte {
	made := append(four(d.Length), byte(d.Depth), byte(len(d.Refs)/256), byte(len(d.Refs)%256))
	for _, r := range d.Refs {
		made = append(made, byte(r.Row/256), byte(r.Row%256))
		made = append(made, four(r.Version)...)
	}
	for len(made) < p.K*p.Cell {
		made = append(made, 0)
	}
	return made
}

// numberOf is a number of some bytes, by multiplying.
func numberOf(b []byte) int {
	number := 0
	for _, digit := range b {
		number = number*256 + int(digit)
	}
	return number
}

// wantParse is the descriptor that bytes of the width are, if they are those of one that may be.
func wantParse(p api.Params, b []byte) (api.Desc, bool) {
	many := numberOf(b[5:7])
	if 7+6*many > len(b) {
		return api.Desc{}, false
	}
	d := api.Desc{Length: numberOf(b[:4]), Depth: int(b[4])}
	for i := range many {
		at := b[7+6*i : 13+6*i]
		d.Refs = append(d.Refs, api.Ref{Row: numberOf(at[:2]), Version: numberOf(at[2:])})
	}
	return d, wantMay(p, d) && bytes.Equal(wantBytes(p, d), b)
}

func sameDesc(d, other api.Desc) bool {
	return d.Length == other.Length && d.Depth == other.Depth && slices.Equal(d.Refs, other.Refs)
}

// zero tells whether a descriptor is the zero value.
func zero(d api.Desc) bool { return d.Length == 0 && d.Depth == 0 && d.Refs == nil }

func toldDesc(d api.Desc) string {
	text := "length " + strconv.Itoa(d.Length) + " depth " + strconv.Itoa(d.Depth)
	for _, r := range d.Refs {
		text += ", " + strconv.Itoa(r.Row) + " at " + strconv.Itoa(r.Version)
	}
	return text
}
