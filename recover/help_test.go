package recover

import (
	"bytes"
	"math"
	"slices"

	"twoslot/api"
)

// most is the document's greatest version, not api's name of it.
const most = 1073741824

func exampleP() api.Params { return api.Params{K: 2, R: 1, Cell: 16, Rows: 16} }

// few are parameters with the fewest drives, bytes of a cell and rows, with the most, without parity, with more parity than data, and with some between.
func few() []api.Params {
	return []api.Params{
		exampleP(),
		{K: 1, R: 0, Cell: 32, Rows: 8},
		{K: 2, R: 2, Cell: 64, Rows: 256},
		{K: 1, R: 4, Cell: 64, Rows: 9},
		{K: 4, R: 0, Cell: 8, Rows: 256},
		{K: 12, R: 4, Cell: 64, Rows: 256},
		{K: 12, R: 4, Cell: 8, Rows: 20},
		{K: 12, R: 0, Cell: 8, Rows: 10},
		{K: 3, R: 2, Cell: 11, Rows: 13},
	}
}

// every calls visit with every K and R that may be, and with the fewest and the most bytes of a cell and many between.
func every(visit func(p api.Params)) {
	for k := 1; k <= 12; k++ {
		for r := range 5 {
			for cell := 8; cell <= 64; cell++ {
				if k*cell >= 32 && (cell == 8 || cell == 64 || (cell+r+k)%5 == 0) {
					visit(api.Params{K: k, R: r, Cell: cell, Rows: 8 + (k*cell+r)%249})
				}
			}
		}
	}
}

// wrongParams has wrong numbers at every place.
func wrongParams(visit func(p api.Params)) {
	for _, p := range few() {
		for _, wrong := range []int{-1, math.MinInt, math.MaxInt, 257, 1 << 32, -1 << 32, 1 << 62} {
			for _, place := range []*int{&p.K, &p.R, &p.Cell, &p.Rows} {
				right := *place
				*place = wrong
				visit(p)
				*place = right + 1<<32
				visit(p)
				*place = right
			}
		}
	}
	for _, p := range []api.Params{{}, {K: 0, R: 3, Cell: 16, Rows: 8}, {K: 13, R: 0, Cell: 16, Rows: 8}, {K: 2, R: 5, Cell: 16, Rows: 8}, {K: 2, R: 1, Cell: 15, Rows: 8}, {K: 12, R: 1, Cell: 7, Rows: 8}, {K: 2, R: 1, Cell: 65, Rows: 8}, {K: 2, R: 1, Cell: 16, Rows: 7}, {K: 2, R: 1, Cell: 16, Rows: 257}} {
		visit(p)
	}
}

func filled(many int, value byte) []byte { return bytes.Repeat([]byte{value}, many) }

// dice makes numbers that are the same in every run.
type dice uint64

func (d *dice) below(many int) int {
	*d = *d*6364136223846793005 + 1442695040888963407
	return int(uint64(*d)>>33) % many
}

// one is some element of a list.
func one[T any](d *dice, of []T) T { return of[d.below(len(of))] }

// some are bytes, by seeds unlike.
func some(many, seed int) []byte {
	throw := dice(seed)
	made := make([]byte, many)
	for i := range made {
		made[i] = byte(throw.below(256))
	}
	return made
}

// upTo are the numbers from one to below another.
func upTo(from, below int) []int {
	var all []int
	for number := from; number < below; number++ {
		all = append(all, number)
	}
	return all
}

// choices calls visit with every choice of so many numbers below n.
func choices(n, many int, visit func(chosen []int)) {
	var choose func(chosen []int, from int)
	choose = func(chosen []int, from int) {
		if len(chosen) == many {
			visit(chosen)
			return
		}
		for number := from; number < n; number++ {
			choose(append(chosen, number), number+1)
		}
	}
	choose(make([]int, 0, many), 0)
}

// wipes calls visit with every choice of at most R drives, none with them.
func wipes(p api.Params, visit func(wiped []int)) {
	for many := range p.R + 1 {
		choices(p.K+p.R, many, visit)
	}
}

// measures are the numbers that hang on parameters alone.
type measures struct{ width, direct, leaf, most int }

// measured is made of the document's words, without layout.
func measured(p api.Params) measures {
	m := measures{width: p.K * p.Cell}
	m.direct, m.leaf = (m.width-7)/6, m.width/6
	m.most = min(32768, m.direct*m.leaf*m.width)
	return m
}

// needed counts how many parts of a size hold all.
func needed(all, size int) int {
	many := 0
	for held := 0; held < all; held += size {
		many++
	}
	return many
}

// shaped is the Depth of an object of a length that may be, and how many Refs its descriptor has.
func shaped(p api.Params, length int) (depth, many int) {
	m := measured(p)
	stripes := needed(length, m.width)
	if stripes > m.direct {
		return 1, needed(stripes, m.leaf)
	}
	return 0, stripes
}

// lengths are those at the edges: none, of one stripe, of Direct and one more, of whole leaves and one stripe more, of Most.
func lengths(p api.Params) []int {
	m := measured(p)
	all := []int{0, 1, m.most - 1, m.most}
	for _, stripes := range []int{1, 2, m.direct, m.direct + 1, m.leaf, m.leaf + 1, 2 * m.leaf, 2*m.leaf + 1, (m.direct - 1) * m.leaf} {
		all = append(all, stripes*m.width-1, stripes*m.width, stripes*m.width+1)
	}
	slices.Sort(all)
	return slices.DeleteFunc(slices.Compact(all), func(length int) bool { return length > m.most })
}

// four is a number in four bytes, made by dividing.
func four(number int) []byte {
	return []byte{byte(number / 16777216), byte(number / 65536 % 256), byte(number / 256 % 256), byte(number % 256)}
}

// numberOf is a number of some bytes, by multiplying.
func numberOf(b []byte) int {
	number := 0
	for _, digit := range b {
		number = number*256 + int(digit)
	}
	return number
}

// refsBytes are refs as bytes, of which each has 6, behind a head, and bytes 0 up to the width.
func refsBytes(p api.Params, head []byte, refs []api.Ref) []byte {
	made := slices.Clone(head)
	for _, r := range refs {
		made = append(made, byte(r.Row/256), byte(r.Row%256))
		made = append(made, four(r.Version)...)
	}
	for len(made) < p.K*p.Cell {
		made = append(made, 0)
	}
	return made
}

func leafBytes(p api.Params, refs []api.Ref) []byte { return refsBytes(p, nil, refs) }

func descBytes(p api.Params, d api.Desc) []byte {
	return refsBytes(p, append(four(d.Length), byte(d.Depth), byte(len(d.Refs)/256), byte(len(d.Refs)%256)), d.Refs)
}

// readRefs are the so many refs that bytes begin with; false, unless all of them may be, and bytes 0 stand behind them.
func readRefs(p api.Params, b []byte, many int) ([]api.Ref, bool) {
	if 6*many > len(b) {
		return nil, false
	}
	var refs []api.Ref
	for i := range many {
		at := b[6*i : 6*i+6]
		refs = append(refs, api.Ref{Row: numberOf(at[:2]), Version: numberOf(at[2:])})
	}
	wrong := slices.ContainsFunc(refs, func(r api.Ref) bool { return r.Row > p.Rows-1 || r.Version < 1 || r.Version > most })
	return refs, !wrong && bytes.Equal(b[6*many:], make([]byte, len(b)-6*many))
}

// readDesc is the descriptor that bytes of the width are; false, unless it may be.
func readDesc(p api.Params, b []byte) (api.Desc, bool) {
	d := api.Desc{Length: numberOf(b[:4]), Depth: int(b[4])}
	if d.Length > measured(p).most {
		return d, false
	}
	depth, many := shaped(p, d.Length)
	if d.Depth != depth || numberOf(b[5:7]) != many {
		return d, false
	}
	refs, is := readRefs(p, b[7:], many)
	d.Refs = refs
	return d, is
}
