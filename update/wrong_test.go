package update

import (
	"bytes"
	"math"
	"slices"
	"testing"

	"twoslot/api"
)

// call is what Plan is handed.
type call struct {
	p                api.Params
	row              []api.Pair
	number, from, to int
	l                []api.Change
}

// rightCalls are some that are not refused.
func rightCalls(p api.Params) []call {
	data := some(p.K*p.Cell, 4)
	return []call{
		{p, whole(p, 7, data).row(), 0, 7, 8, changesOf(p, 1, 0)},
		{p, whole(p, 1, data).row(), p.Rows - 1, 1, most, changesOf(p, 2, allCells(p)...)},
		{p, whole(p, most-1, data).row(), 1, most - 1, most, changesOf(p, 3, p.K-1)},
	}
}

func (c call) refused(t *testing.T, want api.Errno) {
	t.Helper()
	if puts, err := Plan(c.p, c.row, c.number, c.from, c.to, c.l); puts != nil || err != want {
		t.Fatalf("%v: Plan of %d pairs, number %d, from %d to %d, %v is %v, %d, want zero, %d", c.p, len(c.row), c.number, c.from, c.to, c.l, puts, err, want)
	}
}

func refusedChanges(t *testing.T, p api.Params, old []byte, at int, now []byte, want api.Errno) {
	t.Helper()
	if l, err := Changes(p, old, at, now); l != nil || err != want {
		t.Fatalf("%v: Changes of %d bytes from %d on to %d bytes are %v, %d, want zero, %d", p, len(old), at, len(now), l, err, want)
	}
}

func refusedUnlike(t *testing.T, p api.Params, old, now []byte, want api.Errno) {
	t.Helper()
	if l, err := Unlike(p, old, now); l != nil || err != want {
		t.Fatalf("%v: Unlike of %d bytes and %d bytes are %v, %d, want zero, %d", p, len(old), len(now), l, err, want)
	}
}

// alike are other numbers that are the same as a number in their last 4 bytes, or nearly.
func alike(number int) []int {
	return []int{number + 1<<32, number - 1<<32, number + 1<<33, number ^ math.MinInt, number | 1<<62}
}

func wrongNumbers(p api.Params) []int {
	all := []int{-1, -2, -p.Rows, p.Rows, p.Rows + 1, 2 * p.Rows, 257, 65536, math.MinInt, math.MinInt + 1, math.MaxInt - 1, math.MaxInt}
	return append(append(all, alike(0)...), alike(p.Rows-1)...)
}

func wrongVersions() []int {
	all := []int{0, -1, -2, -7, -most, most + 1, most + 2, 2 * most, 2*most + 7, 1<<31 - 1, 1 << 31, 1 << 32, -1 << 32, 1 << 62, math.MinInt, math.MinInt + 1, math.MaxInt - 1, math.MaxInt}
	return append(append(append(all, alike(1)...), alike(7)...), alike(8)...)
}

// wrongCells are numbers that no data cell has.
func wrongCells(p api.Params) []int {
	all := []int{-1, -2, -p.K, p.K, p.K + 1, p.K + p.R, 256, 257, 1 << 16, math.MinInt, math.MinInt + 1, math.MaxInt - 1, math.MaxInt}
	return append(append(all, alike(0)...), alike(p.K-1)...)
}

// wrongSizes are other lengths than a right one.
func wrongSizes(right int) []int {
	return []int{0, 1, right - 1, right + 1, 2 * right, right + 256, 1 << 16, 1<<16 + right}
}

// wrongRows have too few pairs or too many, or a pair that may not be in any place.
func wrongRows(p api.Params, right []api.Pair) [][]api.Pair {
	n, size := p.K+p.R, sizeOf(p)
	all := [][]api.Pair{nil, {}, right[:n-1], right[1:], append(slices.Clone(right), api.Pair{}), append(slices.Clone(right), right...), make([]api.Pair, n-1), make([]api.Pair, n+1), make([]api.Pair, n+256), make([]api.Pair, 1<<16+n)}
	for drive := range n {
		for slot := range 2 {
			for _, bad := range [][]byte{{0}, filled(size-1, 84), filled(size+1, 84), filled(p.Cell, 1), filled(2*size, 0), make([]byte, size+256), make([]byte, 1<<16)} {
				for _, from := range [][]api.Pair{right, make([]api.Pair, n)} {
					row := slices.Clone(from)
					row[drive][slot] = bad
					all = append(all, row)
				}
			}
		}
	}
	return all
}

// wrongLists are changes that may not be: none, cells that do not rise, cells that are none, in any place.
func wrongLists(p api.Params) [][]api.Change {
	all := [][]api.Change{nil, {}, changesOf(p, 1, 0, 0), changesOf(p, 1, p.K-1, p.K-1), append(changesOf(p, 1, allCells(p)...), changesOf(p, 1, allCells(p)...)...)}
	for _, bad := range wrongCells(p) {
		for place := range p.K {
			l := changesOf(p, 1, allCells(p)...)
			l[place].Cell = bad
			all = append(all, l)
		}
		all = append(all, changesOf(p, 1, bad), changesOf(p, 1, 0, bad), changesOf(p, 1, bad, p.K-1))
	}
	for place := 1; place < p.K; place++ {
		l := changesOf(p, 1, allCells(p)...)
		l[place].Cell = place - 1 // twice
		all = append(all, l)
		l = slices.Clone(l)
		l[place].Cell, l[place-1].Cell = place-1, place // falling
		all = append(all, l, changesOf(p, 1, place, 0), changesOf(p, 1, 0, place, 0), changesOf(p, 1, 0, place, place))
	}
	return all
}

// wrongData are changes whose cells are right, one of which has other than Cell bytes, in any place.
func wrongData(p api.Params) [][]api.Change {
	var all [][]api.Change
	for _, many := range wrongSizes(p.Cell) {
		for place := range p.K {
			l := changesOf(p, 1, allCells(p)...)
			l[place].Data = make([]byte, many)
			all = append(all, l, []api.Change{{Cell: place, Data: make([]byte, many)}})
		}
	}
	l := changesOf(p, 1, allCells(p)...)
	l[p.K/2].Data = nil
	return append(all, l)
}

// None of the right calls is refused; else the tests below would tell nothing.
func TestP13_1RightInputs(t *testing.T) {
	for _, p := range few() {
		for _, c := range rightCalls(p) {
			for _, number := range []int{0, 1, p.Rows - 1} {
				if puts, err := Plan(p, c.row, number, c.from, c.to, c.l); len(puts) != len(c.l)+p.R || err != api.OK {
					t.Fatalf("%v: a right call is answered by %v, %d", p, puts, err)
				}
			}
		}
	}
}

// Parameters are told ahead of all else, whatever else is wrong.
func TestP13_1WrongParamsOfAllCalls(t *testing.T) {
	right := rightCalls(exampleP())[0]
	wrongParams(func(p api.Params) {
		for _, c := range []call{
			right,
			{},
			{row: right.row[:2], from: 7, to: 8, l: right.l},
			{row: []api.Pair{{{1}, nil}, {}, {}}, from: 7, to: 8, l: right.l},
			{row: right.row, number: -1, from: 0, to: -1},
			{row: right.row, from: 7, to: 8, l: fives(1, 15)},
			{row: right.row, from: 6, to: 8, l: right.l},
		} {
			c.p = p
			c.refused(t, api.ErrParams)
		}
		for _, old := range [][]byte{nil, make([]byte, 31), make([]byte, 32), make([]byte, 33)} {
			for _, now := range [][]byte{nil, make([]byte, 1), make([]byte, 32), make([]byte, 1<<16)} {
				refusedChanges(t, p, old, 0, now, api.ErrParams)
				refusedChanges(t, p, old, -1, now, api.ErrParams)
				refusedUnlike(t, p, old, now, api.ErrParams)
			}
		}
	})
}

// A row that may not be is told ahead of all arguments behind it.
func TestP13_1WrongRows(t *testing.T) {
	for _, p := range few() {
		right := rightCalls(p)[0]
		for _, row := range wrongRows(p, right.row) {
			for _, c := range []call{
				right,
				{number: p.Rows, from: 7, to: 8, l: right.l},
				{from: 0, to: 8, l: right.l},
				{from: 7, to: most + 1, l: right.l},
				{from: 7, to: 7, l: right.l},
				{from: 7, to: 8},
				{from: 7, to: 8, l: changesOf(p, 1, p.K)},
				{from: 7, to: 8, l: []api.Change{{}}},
				{from: 6, to: 8, l: right.l},
				{number: math.MinInt, from: math.MaxInt, to: math.MinInt},
			} {
				c.p, c.row = p, row
				c.refused(t, api.ErrRow)
			}
		}
	}
}

// A row of the slots of other parameters may not be, if these have another size.
func TestP13_1RowsOfOtherParams(t *testing.T) {
	for _, p := range few() {
		for _, q := range few() {
			if c := rightCalls(q)[0]; p.K+p.R != q.K+q.R || sizeOf(p) != sizeOf(q) {
				c.p, c.l = p, changesOf(p, 1, 0)
				c.refused(t, api.ErrRow)
			}
		}
	}
}

func TestP13_1WrongNumbers(t *testing.T) {
	for _, p := range few() {
		for _, c := range rightCalls(p) {
			for _, number := range wrongNumbers(p) {
				c.number = number
				c.refused(t, api.ErrParams)
			}
		}
	}
}

func TestP13_1WrongVersions(t *testing.T) {
	for _, p := range few() {
		for _, right := range rightCalls(p) {
			for _, version := range wrongVersions() {
				for _, c := range []call{
					{from: version, to: right.to},
					{from: right.from, to: version},
					{from: version, to: version},
					{from: version, to: version + 1}, // may wrap round
					{from: version - 1, to: version},
				} {
					if c.from >= 1 && c.to > c.from && c.to <= most {
						continue
					}
					c.p, c.row, c.number, c.l = p, right.row, right.number, right.l
					c.refused(t, api.ErrParams)
				}
			}
		}
	}
}

// The new version is above the old one, whether the old one is there or not.
func TestP13_1VersionsThatDoNotRise(t *testing.T) {
	for _, p := range few() {
		for _, c := range rightCalls(p) {
			for _, x := range [][2]int{{c.from, c.from}, {c.from, c.from - 1}, {c.from, 1}, {most, most}, {most, most - 1}, {most, 1}, {1, 1}, {2, 1}, {9, 9}, {9, 8}, {most - 1, 7}, {1 << 16, 255}} {
				c.from, c.to = x[0], x[1]
				c.refused(t, api.ErrParams)
			}
		}
	}
}

// Changes that may not be are told, also where one that stands ahead of what is wrong is of another size.
func TestP13_1WrongLists(t *testing.T) {
	for _, p := range few() {
		for _, c := range rightCalls(p) {
			for _, l := range wrongLists(p) {
				c.l = l
				c.refused(t, api.ErrParams)
				for place := range l {
					c.l = slices.Clone(l)
					c.l[place].Data = make([]byte, p.Cell-1)
					c.refused(t, api.ErrParams)
				}
			}
		}
	}
}

func TestP13_1WrongData(t *testing.T) {
	for _, p := range few() {
		for _, c := range rightCalls(p) {
			for _, l := range wrongData(p) {
				c.l = l
				c.refused(t, api.ErrSize)
			}
		}
	}
}

// A list of very many changes is refused by its first cell that does not rise.
func TestP13_1VeryManyChanges(t *testing.T) {
	for _, p := range few() {
		c := rightCalls(p)[0]
		c.l = make([]api.Change, 1<<20)
		c.refused(t, api.ErrParams)
		for i := range c.l {
			c.l[i] = api.Change{Cell: i, Data: c.row[0][0][:p.Cell]}
		}
		c.refused(t, api.ErrParams)
		c.l = c.l[:p.K+1]
		c.refused(t, api.ErrParams)
		if _, err := Plan(p, c.row, c.number, c.from, c.to, c.l[:p.K]); err != api.OK {
			t.Fatalf("%v: changes of all cells are refused: %d", p, err)
		}
	}
}

// Two things are wrong: numbers ahead of changes' sizes, both ahead of what is lost.
func TestP13_1WhichErrorFirst(t *testing.T) {
	for _, p := range few() {
		data := some(p.K*p.Cell, 4)
		lost := whole(p, 7, data)
		for drive := range p.R + 1 {
			lost = lost.without(drive)
		}
		for _, r := range []known{whole(p, 7, data), lost, blank(p), whole(p, 6, data)} {
			right := call{p, r.row(), 0, 7, 8, changesOf(p, 1, 0)}
			for _, l := range append(wrongData(p), right.l) {
				for _, c := range []call{
					{number: -1, from: 7, to: 8},
					{number: p.Rows, from: 7, to: 8},
					{from: 0, to: 8},
					{from: most + 1, to: most + 2},
					{from: 7, to: 7},
					{from: 8, to: 7},
					{from: 7, to: most + 1},
				} {
					c.p, c.row, c.l = p, right.row, l
					c.refused(t, api.ErrParams)
				}
			}
			for _, l := range wrongLists(p) {
				c := right
				c.l = l
				c.refused(t, api.ErrParams)
			}
			for _, l := range wrongData(p) {
				c := right
				c.l = l
				c.refused(t, api.ErrSize)
				c.from = 5 // which no slot tells
				c.refused(t, api.ErrSize)
			}
			c := right
			c.from = 5
			c.refused(t, api.ErrLost)
		}
		call{p, lost.row(), 0, 7, 8, changesOf(p, 1, 0)}.refused(t, api.ErrLost)
	}
}

func TestP13_2WrongOld(t *testing.T) {
	for _, p := range few() {
		width := p.K * p.Cell
		for _, many := range append(wrongSizes(width), p.Cell, (p.K+p.R)*p.Cell, (p.K+1)*p.Cell) {
			if many == width {
				continue
			}
			old := make([]byte, many)
			for _, at := range []int{0, 1, width, many, -1, width + 1, many + 1, math.MinInt, math.MaxInt} {
				for _, now := range []int{0, 1, width, many, width + 1, 1 << 16} {
					refusedChanges(t, p, old, at, make([]byte, now), api.ErrSize)
				}
			}
			refusedUnlike(t, p, old, make([]byte, width), api.ErrSize)
			refusedUnlike(t, p, make([]byte, width), old, api.ErrSize)
			refusedUnlike(t, p, old, old, api.ErrSize)
		}
		refusedChanges(t, p, nil, 0, nil, api.ErrSize)
		refusedUnlike(t, p, nil, nil, api.ErrSize)
		refusedUnlike(t, p, nil, make([]byte, width), api.ErrSize)
		refusedUnlike(t, p, make([]byte, width), nil, api.ErrSize)
	}
}

// A place that may not be is told ahead of bytes that are too many.
func TestP13_2WrongPlaces(t *testing.T) {
	for _, p := range few() {
		width := p.K * p.Cell
		wrong := []int{-1, -2, -width, width + 1, width + 2, 2 * width, 1 << 16, math.MinInt, math.MinInt + 1, math.MaxInt - 1, math.MaxInt}
		for _, at := range append(append(wrong, alike(0)...), alike(width)...) {
			for _, now := range [][]byte{nil, {}, {1}, make([]byte, width), make([]byte, width+1), make([]byte, 1<<16)} {
				refusedChanges(t, p, some(width, 1), at, now, api.ErrParams)
			}
		}
	}
}

func TestP13_2TooManyBytes(t *testing.T) {
	for _, p := range few() {
		width := p.K * p.Cell
		old := some(width, 1)
		for at := range width + 1 {
			refusedChanges(t, p, old, at, make([]byte, width-at+1), api.ErrSize)
			if l, err := Changes(p, old, at, make([]byte, width-at)); err != api.OK || at < width && len(l) == 0 {
				t.Fatalf("%v: the last bytes from %d on are %v, %d", p, at, l, err)
			}
		}
		for _, many := range []int{width + 1, width + 256, 1 << 16, 1<<16 + width} {
			refusedChanges(t, p, old, 0, make([]byte, many), api.ErrSize)
			refusedChanges(t, p, old, width, make([]byte, many), api.ErrSize)
		}
	}
}

// What is handed in and wrong is not changed either.
func TestP13_3WrongInputsAreOnlyRead(t *testing.T) {
	for _, p := range few() {
		right := rightCalls(p)[0]
		for _, l := range append(wrongLists(p), wrongData(p)...) {
			var was []api.Change
			for _, x := range l {
				was = append(was, api.Change{Cell: x.Cell, Data: bytes.Clone(x.Data)})
			}
			Plan(p, right.row, right.number, right.from, right.to, l)
			if !sameChanges(l, was) {
				t.Fatalf("%v: Plan changes what may not be", p)
			}
		}
		for _, row := range wrongRows(p, right.row) {
			if len(row) > 2*(p.K+p.R) {
				continue
			}
			var was []api.Pair
			for _, two := range row {
				was = append(was, api.Pair{bytes.Clone(two[0]), bytes.Clone(two[1])})
			}
			Plan(p, row, right.number, right.from, right.to, right.l)
			for drive := range was {
				if !bytes.Equal(row[drive][0], was[drive][0]) || !bytes.Equal(row[drive][1], was[drive][1]) {
					t.Fatalf("%v: Plan changes a row that may not be", p)
				}
			}
		}
	}
}
