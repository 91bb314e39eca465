package desc

import (
	"bytes"
	"math"
	"slices"
	"testing"

	"twoslot/api"
)

// alike are other numbers that are the same as a number in their last 1, 2 or 4 bytes.
func alike(number int) []int {
	return []int{number + 256, number - 256, number + 65536, number - 65536, number + 1<<24, number + 1<<31, number + 1<<32, number - 1<<32, number + 1<<33, number ^ math.MinInt, number | 1<<62}
}

// extremes are numbers that nothing here may be.
func extremes() []int {
	return []int{-1, -2, -most, math.MinInt, math.MinInt + 1, 2*most + 1, 1<<31 - 1, 1<<32 - 1, 1 << 32, 1 << 62, math.MaxInt - 1, math.MaxInt}
}

// wrongLengths can't be an object's, or have another Depth or another number of Refs.
func wrongLengths(p api.Params, d api.Desc, visit func(d api.Desc)) {
	m, right := measured(p), d.Length
	for _, length := range slices.Concat(alike(right), extremes(), []int{m.most + 1, m.most + 2, 32769, 65536, right + m.width*m.leaf, right - m.width*m.leaf}) {
		if d.Length = length; !wantMay(p, d) {
			visit(d)
		}
	}
	if right == m.most {
		d.Length = right + 1
		visit(d)
	}
}

// wrongDepths are all but the length's.
func wrongDepths(_ api.Params, d api.Desc, visit func(d api.Desc)) {
	right := d.Depth
	for _, depth := range slices.Concat(alike(right), extremes(), []int{1 - right, 2, 3, 255, 256, 257}) {
		d.Depth = depth
		visit(d)
	}
}

// wrongNumbers of Refs, each of which may be.
func wrongNumbers(p api.Params, d api.Desc, visit func(d api.Desc)) {
	right := d.Refs
	for _, many := range []int{0, len(right) - 1, len(right) + 1, len(right) + 2, 2*len(right) + 1, len(right) + 256, 1<<16 + len(right)} {
		if many >= 0 && many != len(right) {
			d.Refs = slices.Concat(right, ofMany(p, 1<<16, 3))[:many]
			visit(d)
		}
	}
}

// wrongList calls visit with lists one Ref of which may not be, at any place.
func wrongList(p api.Params, right []api.Ref, visit func(l []api.Ref)) {
	l := slices.Clone(right)
	for place, was := range right {
		for _, row := range slices.Concat(alike(was.Row), extremes(), []int{p.Rows, p.Rows + 1, 2 * p.Rows, 256, 257, 65536}) {
			if row < 0 || row >= p.Rows {
				l[place].Row = row
				visit(l)
			}
		}
		l[place] = was
		for _, version := range slices.Concat(alike(was.Version), extremes(), []int{0, most + 1, most + 2, 2 * most, 3 * most}) {
			if version < 1 || version > most {
				l[place].Version = version
				visit(l)
			}
		}
		l[place] = api.Ref{}
		visit(l)
		l[place] = was
	}
}

func wrongRefs(p api.Params, d api.Desc, visit func(d api.Desc)) {
	wrongList(p, d.Refs, func(l []api.Ref) {
		d.Refs = slices.Clone(l)
		visit(d)
	})
}

// wrongs make descriptors wrong, each one by one thing.
func wrongs() []func(p api.Params, d api.Desc, visit func(d api.Desc)) {
	return []func(p api.Params, d api.Desc, visit func(d api.Desc)){wrongLengths, wrongDepths, wrongNumbers, wrongRefs}
}

// wrongMany are numbers of Refs that no leaf has.
func wrongMany(p api.Params) []int {
	leaf := measured(p).leaf
	return slices.Concat(alike(leaf), alike(1), extremes(), []int{0, leaf + 1, leaf + 2, 2 * leaf, -leaf})
}

// wrongWidths are as many bytes as a stripe has not.
func wrongWidths(p api.Params) []int {
	width := p.K * p.Cell
	return []int{0, 1, 6, 7, 13, p.Cell - 1, width - 1, width + 1, width + p.Cell, 2 * width, width + 256, 1 << 16, 1<<16 + 1, 1<<16 + width}
}

// someDescs are right ones and wrong ones, small and great.
func someDescs(p api.Params) []api.Desc {
	all := append(rights(p), api.Desc{Length: -1}, api.Desc{Length: math.MaxInt}, api.Desc{Depth: 2}, api.Desc{Length: 1}, api.Desc{Length: 1, Refs: []api.Ref{{Row: -1}}})
	return append(all, api.Desc{Refs: make([]api.Ref, 1)}, api.Desc{Length: math.MinInt, Depth: -1, Refs: make([]api.Ref, 300)})
}

// Parameters are told ahead of all else, whatever else is wrong.
func TestP15_1WrongParams(t *testing.T) {
	wrongParams(func(p api.Params) {
		for _, d := range someDescs(exampleP()) {
			refused(t, p, d, api.ErrParams)
		}
	})
}

func TestP15_2WrongParams(t *testing.T) {
	right := wantBytes(exampleP(), rights(exampleP())[2])
	wrongParams(func(p api.Params) {
		for _, b := range [][]byte{nil, {}, right, right[:63], right[:1], make([]byte, 64), filled(64, 255), make([]byte, 1<<16+1)} {
			refusedParse(t, p, b, api.ErrParams)
		}
	})
}

func TestP15_3WrongParams(t *testing.T) {
	l := ofMany(exampleP(), 10, 3)
	right := wantLeaf(exampleP(), l)
	wrongParams(func(p api.Params) {
		for _, refs := range [][]api.Ref{nil, {}, l, l[:1], make([]api.Ref, 1), make([]api.Ref, 300)} {
			refusedLeaf(t, p, refs, api.ErrParams)
		}
		for _, b := range [][]byte{nil, {}, right, right[:63], make([]byte, 64), filled(64, 255)} {
			for _, n := range []int{10, 1, 0, -1, 11, math.MinInt, math.MaxInt} {
				refusedRefs(t, p, b, n, api.ErrParams)
			}
		}
	})
}

// Parameters that are wrong by the width alone, or by the rows, are told though all fits to them.
func TestP15_1WrongParamsThatFit(t *testing.T) {
	for _, p := range []api.Params{{K: 1, R: 2, Cell: 31, Rows: 8}, {K: 3, R: 0, Cell: 10, Rows: 8}, {K: 4, R: 2, Cell: 16, Rows: 7}, {K: 4, R: 2, Cell: 16, Rows: 257}, {K: 4, R: 5, Cell: 16, Rows: 8}, {K: 13, R: 0, Cell: 16, Rows: 8}} {
		d, l := descOf(p, 1, 3), ofMany(p, 2, 3)
		refused(t, p, d, api.ErrParams)
		refused(t, p, api.Desc{}, api.ErrParams)
		refusedParse(t, p, wantBytes(p, d), api.ErrParams)
		refusedLeaf(t, p, l, api.ErrParams)
		refusedRefs(t, p, wantLeaf(p, l), 2, api.ErrParams)
	}
}

func TestP15_1OneThingWrong(t *testing.T) {
	for _, p := range few() {
		for _, right := range rights(p) {
			checkBytes(t, p, right, wantBytes(p, right))
			for _, wrong := range wrongs() {
				wrong(p, right, func(d api.Desc) { refused(t, p, d, api.ErrDesc) })
			}
		}
	}
}

func TestP15_1TwoThingsWrong(t *testing.T) {
	p := api.Params{K: 4, R: 0, Cell: 8, Rows: 9}
	for _, right := range []api.Desc{descOf(p, 33, 3), descOf(p, 129, 3)} {
		for i, wrong := range wrongs() {
			for _, also := range wrongs()[i+1:] {
				wrong(p, right, func(d api.Desc) {
					if len(d.Refs) > 300 {
						return
					}
					also(p, d, func(d api.Desc) {
						if !wantMay(p, d) {
							refused(t, p, d, api.ErrDesc)
						}
					})
				})
			}
		}
	}
}

// Several Refs that may not be are no better than one.
func TestP15_1AllRefsWrong(t *testing.T) {
	for _, p := range few() {
		d := rights(p)[3]
		for _, r := range []api.Ref{{}, {Row: -1, Version: 1}, {Row: p.Rows, Version: 1}, {Row: 0, Version: most + 1}, {Row: math.MinInt, Version: math.MaxInt}} {
			refused(t, p, api.Desc{Length: d.Length, Depth: d.Depth, Refs: slices.Repeat([]api.Ref{r}, len(d.Refs))}, api.ErrDesc)
			refusedLeaf(t, p, slices.Repeat([]api.Ref{r}, measured(p).leaf), api.ErrDesc)
		}
	}
}

func TestP15_1DescriptorsOfOtherParams(t *testing.T) {
	for _, p := range few() {
		for _, q := range few() {
			for _, d := range rights(q) {
				if wantMay(p, d) {
					checkBytes(t, p, d, wantBytes(p, d))
				} else {
					refused(t, p, d, api.ErrDesc)
				}
			}
		}
	}
}

// Other than the width is told, whatever the bytes are.
func TestP15_2WrongWidths(t *testing.T) {
	for _, p := range few() {
		refusedParse(t, p, nil, api.ErrSize)
		for _, right := range rights(p) {
			b := wantBytes(p, right)
			for _, many := range wrongWidths(p) {
				refusedParse(t, p, make([]byte, many), api.ErrSize)
				refusedParse(t, p, filled(many, 255), api.ErrSize)
				refusedParse(t, p, append(slices.Clone(b), make([]byte, 1<<17)...)[:many], api.ErrSize)
			}
			refusedParse(t, p, b[1:], api.ErrSize)
		}
	}
}

func TestP15_2BytesOfOtherParams(t *testing.T) {
	for _, p := range few() {
		for _, q := range few() {
			for _, d := range rights(q) {
				if b := wantBytes(q, d); len(b) != p.K*p.Cell {
					refusedParse(t, p, b, api.ErrSize)
				} else {
					asWanted(t, p, b)
				}
			}
		}
	}
}

// The bytes of descriptors that may not be, where each of their numbers has room, are none.
func TestP15_2BytesOfNoDescriptor(t *testing.T) {
	for _, p := range few() {
		for _, right := range rights(p) {
			for _, wrong := range wrongs() {
				wrong(p, right, func(d api.Desc) {
					if b := wantBytes(p, d); roomFor(d) && len(b) == p.K*p.Cell {
						refusedParse(t, p, b, api.ErrDesc)
					}
				})
			}
		}
	}
}

// roomFor tells whether each number of a descriptor has room in its bytes.
func roomFor(d api.Desc) bool {
	for _, r := range d.Refs {
		if r.Row < 0 || r.Row >= 1<<16 || r.Version < 0 || r.Version >= 1<<32 {
			return false
		}
	}
	return d.Length >= 0 && d.Length < 1<<32 && d.Depth >= 0 && d.Depth < 256 && len(d.Refs) < 1<<16
}

// The number of Refs is told ahead of these.
func TestP15_3WrongLists(t *testing.T) {
	for _, p := range few() {
		leaf := measured(p).leaf
		for _, none := range [][]api.Ref{nil, {}, make([]api.Ref, 0, 5), ofMany(p, 3, 1)[:0]} {
			refusedLeaf(t, p, none, api.ErrSize)
		}
		for _, many := range []int{leaf + 1, leaf + 2, 2 * leaf, leaf + 256, 1 << 16, 1<<16 + 1, 1<<16 + leaf} {
			refusedLeaf(t, p, ofMany(p, many, 3), api.ErrSize)
			refusedLeaf(t, p, make([]api.Ref, many), api.ErrSize)
			refusedLeaf(t, p, slices.Repeat([]api.Ref{{Row: -1, Version: most + 1}}, many), api.ErrSize)
		}
		for _, many := range []int{1, 2, leaf} {
			wrongList(p, ofMany(p, many, 4), func(l []api.Ref) { refusedLeaf(t, p, l, api.ErrDesc) })
		}
	}
}

// The width is told, then n, and then what the bytes are.
func TestP15_3WrongBytesAndNumbers(t *testing.T) {
	for _, p := range few() {
		leaf := measured(p).leaf
		b := wantLeaf(p, ofMany(p, leaf, 3))
		for _, n := range wrongMany(p) {
			if n < 1 || n > leaf {
				refusedRefs(t, p, b, n, api.ErrSize)
				refusedRefs(t, p, make([]byte, len(b)), n, api.ErrSize)
				refusedRefs(t, p, filled(len(b), 255), n, api.ErrSize)
				refusedRefs(t, p, b[1:], n, api.ErrSize)
				refusedRefs(t, p, nil, n, api.ErrSize)
			}
		}
		refusedRefs(t, p, nil, 1, api.ErrSize)
		for _, many := range wrongWidths(p) {
			for _, n := range []int{1, 2, leaf, many / 6, many} {
				refusedRefs(t, p, make([]byte, many), n, api.ErrSize)
				refusedRefs(t, p, append(slices.Clone(b), make([]byte, 1<<17)...)[:many], n, api.ErrSize)
				refusedRefs(t, p, append(wantLeaf(p, ofMany(p, 1, 3)), make([]byte, 1<<17)...)[:many], n, api.ErrSize)
			}
		}
	}
}

func TestP15_3BytesOfNoLeaf(t *testing.T) {
	for _, p := range few() {
		wrongList(p, ofMany(p, measured(p).leaf, 4), func(l []api.Ref) {
			if roomFor(api.Desc{Refs: l}) {
				refusedRefs(t, p, wantLeaf(p, l), len(l), api.ErrDesc)
			}
		})
		for _, right := range rights(p)[1:] { // a descriptor begins with a row 0 of the version of its length's last bytes, and then what is not 0
			refsAsWanted(t, p, wantBytes(p, right), 1)
		}
	}
}

// What is handed in and wrong is not changed either.
func TestP15_4WrongInputsAreOnlyRead(t *testing.T) {
	for _, p := range few() {
		for _, right := range rights(p) {
			for _, wrong := range wrongs() {
				wrong(p, right, func(was api.Desc) {
					if len(was.Refs) > 300 {
						return
					}
					d := was
					d.Refs = roomyRefs(was.Refs)
					Check(p, d)
					Bytes(p, d)
					Leaf(p, d.Refs)
					if !untouchedRefs(d.Refs, was.Refs) {
						t.Fatalf("%v: a call changes %s", p, told(was))
					}
				})
			}
			for _, was := range [][]byte{nil, filled(p.K*p.Cell, 255), wantBytes(p, right)[1:], append(bytes.Clone(wantBytes(p, right)), 7)} {
				b := roomy(was)
				Parse(p, b)
				Refs(p, b, 1)
				Refs(p, b, 0)
				if !untouched(b, was) {
					t.Fatalf("%v: a call changes bytes that are none", p)
				}
			}
		}
	}
}
