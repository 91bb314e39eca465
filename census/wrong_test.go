package census

import (
	"bytes"
	"math"
	"slices"
	"testing"

	"twoslot/api"
)

// refused tells that all calls but Missing are refused, with all else zero.
func refused(t *testing.T, p api.Params, row []api.Pair, want api.Errno) {
	t.Helper()
	tallies, err := Tallies(p, row)
	winner, won, err2 := Winner(p, row)
	runner, ran, err3 := Runner(p, row)
	losers, err4 := Losers(p, row)
	if tallies != nil || winner != 0 || won || runner != 0 || ran || losers != nil || err != want || err2 != want || err3 != want || err4 != want {
		t.Fatalf("%v: %d pairs are answered by %v, %d; %d, %v, %d; %d, %v, %d; %v, %d, want zero, %d", p, len(row), tallies, err, winner, won, err2, runner, ran, err3, losers, err4, want)
	}
}

func refusedMissing(t *testing.T, p api.Params, row []api.Pair, version int, want api.Errno) {
	t.Helper()
	if drives, err := Missing(p, row, version); drives != nil || err != want {
		t.Fatalf("%v: Missing of %d in %d pairs is %v, %d, want zero, %d", p, version, len(row), drives, err, want)
	}
}

// refusedAll tells that all calls are refused, be the version right or wrong.
func refusedAll(t *testing.T, p api.Params, row []api.Pair, want api.Errno) {
	t.Helper()
	refused(t, p, row, want)
	for _, version := range append(wrongVersions(), 1, 5, 7, most) {
		refusedMissing(t, p, row, version, want)
	}
}

// alike are other numbers that are the same as a number in their last 4 bytes, or nearly.
func alike(number int) []int {
	return []int{number + 1<<32, number - 1<<32, number + 1<<33, number ^ math.MinInt, number | 1<<62}
}

func wrongVersions() []int {
	all := []int{0, -1, -2, -5, -most, most + 1, most + 2, 2 * most, 2*most + 5, 1<<31 - 1, 1 << 31, 1 << 32, -1 << 32, 1 << 62, math.MinInt, math.MinInt + 1, math.MaxInt - 1, math.MaxInt}
	return append(append(append(all, alike(1)...), alike(5)...), alike(most)...)
}

// rightRows are some in which all calls tell something, and some in which they tell nothing.
func rightRows(p api.Params) []known {
	n := p.K + p.R
	return []known{
		blank(p),
		blank(p).holding(p, 0, 5, upTo(0, n)...).holding(p, 1, 7, upTo(0, p.K)...),
		blank(p).holding(p, 1, most, upTo(p.R, n)...).holding(p, 0, 1, n-1),
		blank(p).holding(p, 0, 5, upTo(0, p.K-1)...),
	}
}

// wrongRows have too few pairs or too many, none, or a pair that may not be in any place.
func wrongRows(p api.Params, right []api.Pair) [][]api.Pair {
	n, size := p.K+p.R, sizeOf(p)
	all := [][]api.Pair{nil, {}, right[:n-1], right[1:], append(slices.Clone(right), api.Pair{}), append(slices.Clone(right), right...), make([]api.Pair, n-1), make([]api.Pair, n+1), make([]api.Pair, n+256), make([]api.Pair, 1<<16+n)}
	for drive := range n {
		for slot := range 2 {
			for _, bad := range [][]byte{{0}, {84, 50}, filled(size-1, 84), filled(size+1, 84), filled(p.Cell, 1), filled(2*size, 0), make([]byte, size+256), make([]byte, 1<<16), make([]byte, 1<<16+size)} {
				if len(bad) != size {
					row := slices.Clone(right)
					row[drive][slot] = bad
					all = append(all, row)
				}
			}
		}
	}
	return all
}

// None of the right rows is refused; else the tests below would tell nothing.
func TestP14_1RightInputs(t *testing.T) {
	for _, p := range few() {
		for _, r := range rightRows(p) {
			ask(t, p, r.row())
			for _, version := range versions() {
				if _, err := Missing(p, r.row(), version); err != api.OK {
					t.Fatalf("%v: Missing of %d is %d", p, version, err)
				}
			}
		}
	}
}

// Parameters are told ahead of all else, whatever else is wrong.
func TestP14_1WrongParams(t *testing.T) {
	right := rightRows(exampleP())[1].row()
	wrongParams(func(p api.Params) {
		for _, row := range [][]api.Pair{right, nil, {}, right[:2], make([]api.Pair, 3), make([]api.Pair, 300), {{{1}, nil}, {}, {}}, {right[0], right[1], {nil, right[2][0][1:]}}} {
			refusedAll(t, p, row, api.ErrParams)
		}
	})
}

// The parameters are told also if they have just the row's measures, and are wrong by the width alone.
func TestP14_1WrongParamsByTheWidth(t *testing.T) {
	for _, p := range []api.Params{{K: 1, R: 2, Cell: 31, Rows: 8}, {K: 3, R: 0, Cell: 10, Rows: 8}} {
		refusedAll(t, p, blank(p).holding(p, 0, 5, 0, 1, 2).row(), api.ErrParams)
		refusedAll(t, p, blank(p).row()[1:], api.ErrParams)
	}
}

// A row that may not be is told ahead of the version.
func TestP14_1WrongRows(t *testing.T) {
	for _, p := range few() {
		for _, r := range rightRows(p)[:2] {
			for _, row := range wrongRows(p, r.row()) {
				refusedAll(t, p, row, api.ErrRow)
			}
		}
	}
}

// A pair that may not be is told, though the version that counts is clear without it.
func TestP14_2WrongPairsBehindTheWinner(t *testing.T) {
	for _, p := range few() {
		n := p.K + p.R
		row := blank(p).holding(p, 0, 7, upTo(0, n)...).row()
		for number := range 2 {
			wrong := slices.Clone(row)
			wrong[n-1][number] = append(bytes.Clone(row[n-1][0]), 0)
			refusedAll(t, p, wrong, api.ErrRow)
			wrong[n-1][number] = row[n-1][0][1:]
			refusedAll(t, p, wrong, api.ErrRow)
		}
	}
}

// A row of the slots of other parameters may not be, if these have another size, or are another number.
func TestP14_1RowsOfOtherParams(t *testing.T) {
	for _, p := range few() {
		for _, q := range few() {
			row := blank(q).holding(q, 0, 5, upTo(0, q.K+q.R)...).row()
			if p.K+p.R != q.K+q.R || sizeOf(p) != sizeOf(q) {
				refusedAll(t, p, row, api.ErrRow)
			}
		}
	}
}

// By one drive more a slot's size is another one; with as many bytes of a cell fewer that it is the same again there is still a pair too many.
func TestP14_1SlotsOfOneDriveMore(t *testing.T) {
	p := api.Params{K: 2, R: 1, Cell: 20, Rows: 8}
	more := api.Params{K: 2, R: 2, Cell: 20, Rows: 8}
	row := blank(more).holding(more, 0, 5, 0, 1, 2, 3).row()
	refusedAll(t, p, row, api.ErrRow)
	refusedAll(t, p, row[:3], api.ErrRow)
	more.Cell = 16
	row = blank(more).holding(more, 0, 5, 0, 1, 2, 3).row()
	refusedAll(t, p, row, api.ErrRow)
}

func TestP14_3WrongVersions(t *testing.T) {
	for _, p := range few() {
		for _, r := range rightRows(p) {
			for _, version := range wrongVersions() {
				refusedMissing(t, p, r.row(), version, api.ErrParams)
			}
		}
	}
}

// What is handed in and wrong is not changed either.
func TestP14_4WrongInputsAreOnlyRead(t *testing.T) {
	for _, p := range few() {
		right := rightRows(p)[1].row()
		for _, row := range wrongRows(p, right) {
			if len(row) > 2*(p.K+p.R) {
				continue
			}
			var was []api.Pair
			for _, two := range row {
				was = append(was, api.Pair{bytes.Clone(two[0]), bytes.Clone(two[1])})
			}
			refusedAll(t, p, row, api.ErrRow)
			for drive := range was {
				if !bytes.Equal(row[drive][0], was[drive][0]) || !bytes.Equal(row[drive][1], was[drive][1]) {
					t.Fatalf("%v: a call changes a row that may not be", p)
				}
			}
		}
	}
}
