package commit

import (
	"bytes"
	"math"
	"slices"
	"testing"

	"twoslot/api"
)

func refusedPuts(t *testing.T, p api.Params, row []api.Pair, number, version int, d api.Desc, want api.Errno) {
	t.Helper()
	if puts, err := Puts(p, row, number, version, d); puts != nil || err != want {
		t.Fatalf("%v: Puts of %d pairs, the row %d, the version %d, %s, are %v, %d, want nil, %d", p, len(row), number, version, toldDesc(d), puts, err, want)
	}
}

func refusedRead(t *testing.T, p api.Params, row []api.Pair, want api.Errno) {
	t.Helper()
	if d, version, err := Read(p, row); !zero(d) || version != 0 || err != want {
		t.Fatalf("%v: Read of %d pairs is %s, %d, %d, want zero, %d", p, len(row), toldDesc(d), version, err, want)
	}
}

func refusedFinish(t *testing.T, p api.Params, row []api.Pair, number int, want api.Errno) {
	t.Helper()
	if puts, err := Finish(p, row, number); puts != nil || err != want {
		t.Fatalf("%v: Finish of %d pairs, the row %d is %v, %d, want nil, %d", p, len(row), number, puts, err, want)
	}
}

// refusedAll tells that all calls on a row are refused, be the rest right or wrong.
func refusedAll(t *testing.T, p api.Params, row []api.Pair, want api.Errno) {
	t.Helper()
	refusedRead(t, p, row, want)
	for _, number := range []int{0, 3, -1, p.Rows, math.MinInt, math.MaxInt} {
		refusedFinish(t, p, row, number, want)
		for _, version := range []int{8, 0, 5, most + 1} {
			for _, d := range []api.Desc{{}, {Length: -1}} {
				refusedPuts(t, p, row, number, version, d, want)
			}
		}
	}
}

// alike are other numbers that are the same as a number in their last 4 bytes, or nearly.
func alike(number int) []int {
	return []int{number + 1<<32, number - 1<<32, number + 1<<33, number ^ math.MinInt, number | 1<<62}
}

func wrongNumbers(p api.Params) []int {
	all := []int{-1, -2, p.Rows, p.Rows + 1, 256, 257, 65536, -65536, -p.Rows, 1 << 31, -1 << 31, math.MinInt, math.MinInt + 1, math.MaxInt - 1, math.MaxInt}
	return append(append(all, alike(0)...), alike(p.Rows-1)...)
}

// wrongVersions are no versions, or not above the winner 5.
func wrongVersions() []int {
	all := []int{0, -1, -2, -5, -6, -most, most + 1, most + 2, 2 * most, 1<<31 - 1, 1 << 31, 1 << 32, -1 << 32, 1 << 62, math.MinInt, math.MinInt + 1, math.MaxInt - 1, math.MaxInt}
	return append(append(append(all, alike(1)...), alike(6)...), alike(most)...)
}

// wrongDescs may not be, each for one reason or for several.
func wrongDescs(p api.Params) []api.Desc {
	m := measured(p)
	all := []api.Desc{{Length: -1}, {Length: math.MinInt}, {Length: math.MaxInt}, {Length: 1 << 32}, {Depth: 1}, {Depth: -1}, {Refs: []api.Ref{{Row: 0, Version: 1}}}, {Length: 1}, {Length: m.most + 1}}
	long := descOf(p, m.most, 4)
	long.Length = m.most + 1
	all = append(all, long)
	for _, length := range []int{1, m.width + 1, m.most} {
		for _, depth := range []int{-1, 0, 1, 2, 256, 257} {
			d := descOf(p, length, 3)
			if d.Depth != depth {
				d.Depth = depth
				all = append(all, d)
			}
		}
		fewer, more := descOf(p, length, 3), descOf(p, length, 3)
		fewer.Refs = fewer.Refs[1:]
		more.Refs = append(more.Refs, api.Ref{Row: 1, Version: 1})
		all = append(all, fewer, more)
		for _, bad := range []api.Ref{{Row: -1, Version: 1}, {Row: p.Rows, Version: 1}, {Row: 0, Version: 0}, {Row: 0, Version: -1}, {Row: 0, Version: most + 1}, {Row: math.MaxInt, Version: math.MinInt}, {}} {
			d := descOf(p, length, 3)
			d.Refs[len(d.Refs)-1] = bad
			all = append(all, d)
		}
	}
	return all
}

// wrongRows have too few pairs or too many, none, or a pair that may not be in any place.
func wrongRows(p api.Params, right []api.Pair) [][]api.Pair {
	n, size := p.K+p.R, sizeOf(p)
	all := [][]api.Pair{nil, {}, right[:n-1], right[1:], append(slices.Clone(right), api.Pair{}), append(slices.Clone(right), right...), make([]api.Pair, n-1), make([]api.Pair, n+1), make([]api.Pair, n+256), make([]api.Pair, 1<<16+n)}
	for drive := range n {
		for slot := range 2 {
			for _, bad := range [][]byte{{0}, {84, 50}, filled(size-1, 84), filled(size+1, 84), filled(p.Cell, 1), filled(2*size, 0), make([]byte, 1<<16+size)} {
				row := slices.Clone(right)
				row[drive][slot] = bad
				all = append(all, row)
			}
		}
	}
	return all
}

// rightRow has a winner 5 and a runner 3; every call on it is well.
func rightRow(p api.Params) known {
	n := p.K + p.R
	return blank(p).holding(p, 0, 5, upTo(0, n)...).holding(p, 1, 3, upTo(0, n)...)
}

// None of the right inputs is refused; else the tests below would tell nothing.
func TestP16_1RightInputs(t *testing.T) {
	for _, p := range few() {
		row := rightRow(p).row()
		if _, version, err := Read(p, row); version != 5 || err != api.OK {
			t.Fatalf("%v: Read is %d, %d", p, version, err)
		}
		for _, number := range []int{0, 3, p.Rows - 1} {
			if _, err := Finish(p, row, number); err != api.OK {
				t.Fatalf("%v: Finish is %d", p, err)
			}
			for _, version := range []int{6, 8, most} {
				for _, d := range descs(p) {
					if puts, err := Puts(p, row, number, version, d); len(puts) != p.K+p.R || err != api.OK {
						t.Fatalf("%v: Puts are %v, %d", p, puts, err)
					}
				}
			}
		}
	}
}

// Parameters are told ahead of all else, whatever else is wrong.
func TestP16_1WrongParams(t *testing.T) {
	right := rightRow(exampleP()).row()
	wrongParams(func(p api.Params) {
		for _, row := range [][]api.Pair{right, nil, right[:2], make([]api.Pair, 3), {{{1}, nil}, {}, {}}} {
			refusedAll(t, p, row, api.ErrParams)
		}
	})
}

func TestP16_3WrongParams(t *testing.T) {
	wrongParams(func(p api.Params) {
		if at, err := Point(p); at != 0 || err != api.ErrParams {
			t.Fatalf("%v: Point is %d, %d", p, at, err)
		}
	})
	for _, p := range []api.Params{{K: 1, R: 2, Cell: 31, Rows: 8}, {K: 3, R: 0, Cell: 10, Rows: 8}} { // by the width alone
		if at, err := Point(p); at != 0 || err != api.ErrParams {
			t.Fatalf("%v: Point is %d, %d", p, at, err)
		}
		refusedAll(t, p, make([]api.Pair, 3), api.ErrParams)
	}
}

// A row that may not be is told ahead of numbers, versions and descriptors.
func TestP16_1WrongRows(t *testing.T) {
	for _, p := range few() {
		for _, r := range []known{rightRow(p), blank(p)} {
			for _, row := range wrongRows(p, r.row()) {
				refusedAll(t, p, row, api.ErrRow)
			}
		}
	}
}

func TestP16_1RowsOfOtherParams(t *testing.T) {
	for _, p := range few() {
		for _, q := range few() {
			if p.K+p.R != q.K+q.R || sizeOf(p) != sizeOf(q) {
				refusedAll(t, p, rightRow(q).row(), api.ErrRow)
			}
		}
	}
}

// A number of no row is told ahead of the descriptor; of Finish ahead of ErrLost.
func TestP16_1WrongNumbers(t *testing.T) {
	for _, p := range few() {
		for _, r := range []known{rightRow(p), blank(p)} {
			for _, number := range wrongNumbers(p) {
				if number >= 0 && number < p.Rows {
					continue
				}
				refusedFinish(t, p, r.row(), number, api.ErrParams)
				for _, version := range []int{6, 8, most, 0, 5, most + 1} {
					refusedPuts(t, p, r.row(), number, version, api.Desc{}, api.ErrParams)
					refusedPuts(t, p, r.row(), number, version, api.Desc{Length: -1}, api.ErrParams)
				}
			}
		}
	}
}

// So is a version that may not be, or that is not above the winner.
func TestP16_1WrongVersions(t *testing.T) {
	for _, p := range few() {
		for _, r := range []known{rightRow(p), blank(p)} {
			for _, version := range wrongVersions() {
				for _, number := range []int{0, p.Rows - 1, p.Rows} {
					refusedPuts(t, p, r.row(), number, version, api.Desc{}, api.ErrParams)
					refusedPuts(t, p, r.row(), number, version, api.Desc{Length: -1}, api.ErrParams)
				}
			}
		}
		for version := -1; version <= 5; version++ {
			refusedPuts(t, p, rightRow(p).row(), 0, version, api.Desc{}, api.ErrParams)
			refusedPuts(t, p, rightRow(p).row(), 0, version, api.Desc{Length: -1}, api.ErrParams)
		}
		full := blank(p).holding(p, 0, most, upTo(0, p.K+p.R)...).row()
		for _, version := range append(versions(), most+1, math.MaxInt) {
			refusedPuts(t, p, full, 0, version, api.Desc{}, api.ErrParams)
		}
	}
}

func TestP16_1WrongDescs(t *testing.T) {
	for _, p := range few() {
		for _, d := range wrongDescs(p) {
			if wantMay(p, d) {
				continue // the parameters have it so
			}
			for _, r := range []known{rightRow(p), blank(p)} {
				refusedPuts(t, p, r.row(), p.Rows-1, 6, d, api.ErrDesc)
				refusedPuts(t, p, r.row(), p.Rows, 6, d, api.ErrParams)
				refusedPuts(t, p, r.row(), 0, most+1, d, api.ErrParams)
			}
		}
	}
}

// Descriptors of other parameters may not be, where their lengths are of another shape.
func TestP16_1DescsOfOtherParams(t *testing.T) {
	for _, p := range few() {
		for _, q := range few() {
			for _, d := range descs(q) {
				checkPuts(t, p, rightRow(p), 0, 6, d)
			}
		}
	}
}

// Without a winner there is nothing to read or to finish, be there losers, slots of KindData, or vectors of several versions.
func TestP16_2NoWinner(t *testing.T) {
	for _, p := range few() {
		n := p.K + p.R
		several := blank(p)
		for drive := range n {
			several[drive][0] = contentOf(slotOf(2, drive, with(same(p, 5), 4, n-1), some(p.Cell, 3)))
		}
		rows := []known{
			blank(p),
			blank(p).holding(p, 0, 5, upTo(0, p.K-1)...),
			blank(p).holding(p, 1, most, upTo(n-p.K+1, n)...),
			blank(p).having(p, 0, 1, 5, wantBytes(p, api.Desc{}), upTo(0, n)...),
		}
		if n > 1 {
			rows = append(rows, several)
		}
		for _, r := range rows {
			refusedRead(t, p, r.row(), api.ErrLost)
			for _, number := range []int{0, p.Rows - 1} {
				refusedFinish(t, p, r.row(), number, api.ErrLost)
			}
			refusedFinish(t, p, r.row(), -1, api.ErrParams)
			refusedFinish(t, p, r.row(), p.Rows, api.ErrParams)
			for _, version := range []int{1, 5, most} {
				checkPuts(t, p, r, 0, version, api.Desc{})
			}
		}
	}
}

// What is handed in and wrong is not changed either.
func TestP16_4WrongInputsAreOnlyRead(t *testing.T) {
	for _, p := range few() {
		for _, row := range wrongRows(p, rightRow(p).row()) {
			if len(row) > 2*(p.K+p.R) {
				continue
			}
			var was []api.Pair
			for _, two := range row {
				was = append(was, api.Pair{bytes.Clone(two[0]), bytes.Clone(two[1])})
			}
			refusedAll(t, p, row, api.ErrRow)
			for drive := range was {
				if !bytes.Equal(row[drive][0], was[drive][0]) || !bytes.Equal(row[drive][1], was[drive][1]) {
					t.Fatalf("%v: a call changes a row that may not be", p)
				}
			}
		}
		for _, d := range wrongDescs(p) {
			was := slices.Clone(d.Refs)
			Puts(p, rightRow(p).row(), 0, 6, d)
			if !slices.Equal(d.Refs, was) {
				t.Fatalf("%v: Puts changes a descriptor that may not be", p)
			}
		}
	}
}
