package stripe

import (
	"bytes"
	"math"
	"slices"
	"testing"

	"twoslot/api"
)

// call is what a call is handed.
type call struct {
	p             api.Params
	row           []api.Pair
	number        int
	kind          uint8
	keep, version int
	data          []byte
}

// rightCalls are some in which all calls find something.
func rightCalls(p api.Params) []call {
	data := some(p.K*p.Cell, 4)
	return []call{
		{p, whole(p, 1, 7, data).row(), 0, 1, 0, 7, data},
		{p, whole(p, 2, most, data).row(), p.Rows - 1, 2, 7, most, data},
		{p, whole(p, 1, 1, data).row(), 1, 1, most, 1, data},
	}
}

// refusedAsked tells that the calls that only ask are refused, with all else zero.
func (c call) refusedAsked(t *testing.T, want api.Errno) {
	t.Helper()
	v, is, err := Vector(c.p, c.row, c.kind, c.version)
	numbers, err2 := Present(c.p, c.row, c.kind, c.version)
	cells, err3 := Cells(c.p, c.row, c.kind, c.version)
	data, err4 := Read(c.p, c.row, c.kind, c.version)
	if v != nil || is || numbers != nil || cells != nil || data != nil || err != want || err2 != want || err3 != want || err4 != want {
		t.Fatalf("%v: %d pairs, kind %d, version %d are answered by %v, %v, %d; %v, %d; %v, %d; %v, %d, want zero, %d", c.p, len(c.row), c.kind, c.version, v, is, err, numbers, err2, cells, err3, data, err4, want)
	}
}

func (c call) refusedMend(t *testing.T, want api.Errno) {
	t.Helper()
	if puts, err := Mend(c.p, c.row, c.number, c.kind, c.keep, c.version); puts != nil || err != want {
		t.Fatalf("%v: Mend of %d pairs, number %d, kind %d, keep %d, version %d is %v, %d, want zero, %d", c.p, len(c.row), c.number, c.kind, c.keep, c.version, puts, err, want)
	}
}

func (c call) refusedFull(t *testing.T, want api.Errno) {
	t.Helper()
	if puts, err := Full(c.p, c.row, c.number, c.kind, c.keep, c.version, c.data); puts != nil || err != want {
		t.Fatalf("%v: Full of %d pairs, number %d, kind %d, keep %d, version %d, %d bytes is %v, %d, want zero, %d", c.p, len(c.row), c.number, c.kind, c.keep, c.version, len(c.data), puts, err, want)
	}
}

func (c call) refusedAll(t *testing.T, want api.Errno) {
	t.Helper()
	c.refusedAsked(t, want)
	c.refusedMend(t, want)
	c.refusedFull(t, want)
}

// alike are other numbers that are the same as a number in their last 4 bytes, or nearly.
func alike(number int) []int {
	return []int{number + 1<<32, number - 1<<32, number + 1<<33, number ^ math.MinInt, number | 1<<62}
}

func wrongKinds() []uint8 { return []uint8{0, 3, 4, 127, 128, 129, 130, 254, 255} }

func wrongNumbers(p api.Params) []int {
	all := []int{-1, -2, -p.Rows, p.Rows, p.Rows + 1, 2 * p.Rows, 257, 65536, math.MinInt, math.MinInt + 1, math.MaxInt - 1, math.MaxInt}
	return append(append(all, alike(0)...), alike(p.Rows-1)...)
}

// wrongKeeps can't be versions, and can't be kept.
func wrongKeeps() []int {
	all := []int{-1, -2, -7, -most, most + 1, most + 2, 2 * most, 2*most + 7, 1<<31 - 1, 1 << 31, 1 << 32, -1 << 32, 1 << 62, math.MinInt, math.MinInt + 1, math.MaxInt - 1, math.MaxInt}
	return append(append(append(all, alike(1)...), alike(7)...), alike(most)...)
}

func wrongVersions() []int { return append(wrongKeeps(), 0) }

// wrongData are of other lengths than the width.
func wrongData(p api.Params) [][]byte {
	var all [][]byte
	for _, many := range []int{0, 1, p.Cell, p.K*p.Cell - 1, p.K*p.Cell + 1, 2 * p.K * p.Cell, (p.K + p.R) * p.Cell, (p.K + 1) * p.Cell, p.K*p.Cell + 256, 1 << 16, 1<<16 + p.K*p.Cell} {
		if many != p.K*p.Cell {
			all = append(all, make([]byte, many))
		}
	}
	return append(all, nil)
}

// wrongRows have too few pairs or too many, or a pair that may not be in any place.
func wrongRows(p api.Params, right []api.Pair) [][]api.Pair {
	n, size := p.K+p.R, sizeOf(p)
	all := [][]api.Pair{nil, {}, right[:n-1], right[1:], append(slices.Clone(right), api.Pair{}), append(slices.Clone(right), right...), make([]api.Pair, n-1), make([]api.Pair, n+1), make([]api.Pair, n+256), make([]api.Pair, 1<<16+n)}
	for drive := range n {
		for slot := range 2 {
			for _, bad := range [][]byte{{0}, filled(size-1, 84), filled(size+1, 84), filled(p.Cell, 1), filled(2*size, 0), make([]byte, size+256), make([]byte, 1<<16)} {
				for _, from := range [][]api.Pair{right, make([]api.Pair, n)} {
					if len(bad) != size {
						row := slices.Clone(from)
						row[drive][slot] = bad
						all = append(all, row)
					}
				}
			}
		}
	}
	return all
}

func TestP12_3ExamplesOfErrors(t *testing.T) {
	p := exampleP()
	row := blank(p).row()
	call{p, row[:2], 3, 1, 0, 7, exampleD()}.refusedFull(t, api.ErrRow)
	call{p, row, 8, 1, 0, 7, exampleD()}.refusedFull(t, api.ErrParams)
	call{p, row, 3, 0, 0, 7, exampleD()}.refusedFull(t, api.ErrParams)
	call{p, row, 3, 1, 0, 7, exampleD()[:31]}.refusedFull(t, api.ErrSize)
}

// None of the right calls is refused; else the tests below would tell nothing.
func TestP12_1RightInputs(t *testing.T) {
	for _, p := range few() {
		for _, c := range rightCalls(p) {
			for _, keep := range []int{0, 1, 7, most - 1, most} {
				for _, number := range []int{0, 1, p.Rows - 1} {
					_, is, err := Vector(p, c.row, c.kind, c.version)
					_, err2 := Read(p, c.row, c.kind, c.version)
					_, err3 := Full(p, c.row, number, c.kind, keep, c.version, c.data)
					_, err4 := Mend(p, c.row, number, c.kind, keep, c.version)
					if !is || err != api.OK || err2 != api.OK || err3 != api.OK || err4 != api.OK {
						t.Fatalf("%v: right inputs are refused: %v, %d, %d, %d, %d", p, is, err, err2, err3, err4)
					}
				}
			}
		}
	}
}

// Parameters are told ahead of all else, whatever else is wrong.
func TestP12_1WrongParamsOfAllCalls(t *testing.T) {
	right := rightCalls(exampleP())[0]
	wrongParams(func(p api.Params) {
		for _, c := range []call{
			right,
			{row: nil, kind: 1, version: 1},
			{row: right.row[:2], kind: 1, version: 1},
			{row: []api.Pair{{{1}, nil}, {}, {}}, kind: 1, version: 7, data: right.data},
			{row: right.row, number: -1, kind: 0, keep: -1, version: 0},
			{row: right.row, number: math.MaxInt, kind: 255, keep: math.MinInt, version: math.MaxInt, data: right.data[1:]},
		} {
			c.p = p
			c.refusedAll(t, api.ErrParams)
		}
	})
}

// A row that may not be is told ahead of all arguments behind it.
func TestP12_1WrongRowsOfAllCalls(t *testing.T) {
	for _, p := range few() {
		right := rightCalls(p)[0]
		for _, row := range wrongRows(p, right.row) {
			c := right
			c.row = row
			c.refusedAll(t, api.ErrRow)
			c.number, c.data = p.Rows, nil
			c.refusedAll(t, api.ErrRow)
			c.number, c.kind = 0, 3
			c.refusedAll(t, api.ErrRow)
			c.kind, c.keep = 2, -1
			c.refusedAll(t, api.ErrRow)
			c.keep, c.version = 0, 0
			c.refusedAll(t, api.ErrRow)
			c = call{p, row, math.MinInt, 255, math.MaxInt, math.MinInt, right.data[1:]}
			c.refusedAll(t, api.ErrRow)
		}
	}
}

// A row of the slots of other parameters may not be, if these have another size.
func TestP12_1RowsOfOtherParams(t *testing.T) {
	for _, p := range few() {
		for _, q := range few() {
			if c := rightCalls(q)[0]; p.K+p.R != q.K+q.R || sizeOf(p) != sizeOf(q) {
				c.p, c.data = p, some(p.K*p.Cell, 1)
				c.refusedAll(t, api.ErrRow)
			}
		}
	}
}

func TestP12_1WrongKindsOfAllCalls(t *testing.T) {
	for _, p := range few() {
		for _, c := range rightCalls(p) {
			for _, kind := range wrongKinds() {
				c.kind = kind
				c.refusedAll(t, api.ErrParams)
			}
		}
	}
}

func TestP12_1WrongVersionsOfAllCalls(t *testing.T) {
	for _, p := range few() {
		for _, c := range rightCalls(p) {
			for _, version := range wrongVersions() {
				c.version = version
				c.refusedAll(t, api.ErrParams)
			}
		}
	}
}

func TestP12_3WrongNumbersAndKeeps(t *testing.T) {
	for _, p := range few() {
		for _, right := range rightCalls(p) {
			for _, number := range wrongNumbers(p) {
				c := right
				c.number = number
				c.refusedFull(t, api.ErrParams)
				c.refusedMend(t, api.ErrParams)
			}
			for _, keep := range wrongKeeps() {
				c := right
				c.keep = keep
				c.refusedFull(t, api.ErrParams)
				c.refusedMend(t, api.ErrParams)
			}
		}
	}
}

func TestP12_3WrongData(t *testing.T) {
	for _, p := range few() {
		for _, c := range append(rightCalls(p), call{p, blank(p).row(), 0, 1, 0, 1, nil}) {
			for _, data := range wrongData(p) {
				c.data = data
				c.refusedFull(t, api.ErrSize)
			}
		}
	}
}

// Wrong data are told behind all numbers, and what is lost behind these, too.
func TestP12_3NumbersAheadOfDataAndOfLost(t *testing.T) {
	for _, p := range few() {
		for _, row := range [][]api.Pair{blank(p).row(), whole(p, 1, 7, some(p.K*p.Cell, 4)).row()} {
			for _, data := range append(wrongData(p), some(p.K*p.Cell, 1)) {
				for _, c := range []call{
					{p, row, -1, 1, 0, 8, data},
					{p, row, p.Rows, 1, 0, 8, data},
					{p, row, 0, 0, 0, 8, data},
					{p, row, 0, 3, 0, 8, data},
					{p, row, 0, 1, -1, 8, data},
					{p, row, 0, 1, most + 1, 8, data},
					{p, row, 0, 1, 0, 0, data},
					{p, row, 0, 1, 0, most + 1, data},
					{p, row, -1, 255, -1, -1, data},
				} {
					c.refusedFull(t, api.ErrParams)
					c.refusedMend(t, api.ErrParams)
				}
			}
		}
	}
}

// What can't be read is lost for Cells, Read and Mend, and no error of the others.
func TestP12_4Lost(t *testing.T) {
	for _, p := range few() {
		lost := whole(p, 1, 7, some(p.K*p.Cell, 4))
		for drive := range p.R + 1 {
			lost = lost.without(drive)
		}
		for _, r := range []known{blank(p), lost, whole(p, 2, 7, some(p.K*p.Cell, 4)), whole(p, 1, 6, some(p.K*p.Cell, 4))} {
			for _, keep := range []int{0, 6, 7, most} {
				c := call{p, r.row(), 0, 1, keep, 7, some(p.K*p.Cell, 4)}
				c.refusedMend(t, api.ErrLost)
				checkAsked(t, p, r, 1, 7)
				checkFull(t, p, r, 0, 1, keep, 7, c.data)
			}
		}
	}
}

// What is handed in and wrong is not changed either.
func TestP12_5WrongInputsAreOnlyRead(t *testing.T) {
	for _, p := range few() {
		right := rightCalls(p)[0]
		for _, row := range wrongRows(p, right.row) {
			if len(row) > 2*(p.K+p.R) {
				continue
			}
			was := slices.Clone(row)
			for drive := range was {
				was[drive] = api.Pair{bytes.Clone(row[drive][0]), bytes.Clone(row[drive][1])}
			}
			c := right
			c.row = row
			c.refusedAll(t, api.ErrRow)
			for drive := range was {
				if !bytes.Equal(row[drive][0], was[drive][0]) || !bytes.Equal(row[drive][1], was[drive][1]) {
					t.Fatalf("%v: a call changes a row that may not be", p)
				}
			}
		}
	}
}
