package matrix

import (
	"bytes"
	"math"
	"slices"
	"testing"

	"twoslot/api"
	"twoslot/gf"
)

// answer is what a call answers that makes a matrix.
type answer struct {
	m   [][]uint8
	err api.Errno
}

func answered(m [][]uint8, e api.Errno) answer { return answer{m, e} }

func same(a, b [][]uint8) bool { return slices.EqualFunc(a, b, bytes.Equal) }

// check holds an answer against the matrix that is asked for.
func check(t *testing.T, call string, got answer, want [][]uint8) {
	t.Helper()
	if got.err != api.OK || !same(got.m, want) {
		t.Fatalf("%s is %v, %d, want %v", call, got.m, got.err, want)
	}
}

// refused asks for an error, with nothing beside it.
func refused(t *testing.T, call string, got answer, want api.Errno) {
	t.Helper()
	if got.err != want || got.m != nil {
		t.Fatalf("%s is %v, %d, want %d", call, got.m, got.err, want)
	}
}

// checkRank holds a rank against the one that is asked for.
func checkRank(t *testing.T, m [][]uint8, want int) {
	t.Helper()
	if n, err := Rank(m); n != want || err != api.OK {
		t.Fatalf("Rank(%v) is %d, %d, want %d", m, n, err, want)
	}
}

// must is a call's matrix, for the laws that are made of several calls.
func must(m [][]uint8, e api.Errno) [][]uint8 {
	if e != api.OK {
		panic(e)
	}
	return m
}

// some makes a matrix by a rule, another one for each seed.
func some(rows, columns, seed int) [][]uint8 {
	state := uint32(seed)*2654435761 + 12345
	var m [][]uint8
	for range rows {
		var row []uint8
		for range columns {
			state = state*1664525 + 1013904223
			row = append(row, uint8(state>>24))
		}
		m = append(m, row)
	}
	return m
}

// sparse is some matrix with 0 at many places, so that columns have nothing to begin with.
func sparse(rows, columns, seed int) [][]uint8 {
	m, choice := some(rows, columns, seed), some(rows, columns, seed+1000)
	for i := range m {
		for j := range m[i] {
			if choice[i][j]%3 != 0 {
				m[i][j] = 0
			} else {
				m[i][j] %= 3
			}
		}
	}
	return m
}

// ofRank makes a matrix of just this rank: rows that hold unit rows, times columns that hold unit columns, both out of order.
func ofRank(rows, columns, rank, seed int) [][]uint8 {
	a, b := some(rows, rank, seed), some(rank, columns, seed+1)
	for l := range rank {
		row, column := (l*5+seed)%rows, (l*7+seed)%columns // 5 and 7 have no divisor with the measures that are asked for
		for i := range rank {
			a[row][i], b[i][column] = 0, 0
		}
		a[row][l], b[l][column] = 1, 1
	}
	return wantMul(a, b, rows, columns)
}

// wantInv goes through all elements.
func wantInv(a uint8) uint8 {
	for b := range 256 {
		if gf.Mul(a, uint8(b)) == 1 {
			return uint8(b)
		}
	}
	panic("no inverse")
}

func zeros(rows, columns int) [][]uint8 {
	m := make([][]uint8, rows)
	for i := range m {
		m[i] = make([]uint8, columns)
	}
	return m
}

func wantOne(n int) [][]uint8 {
	m := zeros(n, n)
	for i := range n {
		m[i][i] = 1
	}
	return m
}

func wantMul(a, b [][]uint8, rows, columns int) [][]uint8 {
	m := zeros(rows, columns)
	for l := range b {
		for i := range rows {
			for j := range columns {
				m[i][j] ^= gf.Mul(a[i][l], b[l][j])
			}
		}
	}
	return m
}

func wantTurned(m [][]uint8) [][]uint8 {
	turned := zeros(len(m[0]), len(m))
	for i := range m {
		for j := range m[i] {
			turned[j][i] = m[i][j]
		}
	}
	return turned
}

// without leaves out a row and a column.
func without(m [][]uint8, row, column int) [][]uint8 {
	var rest [][]uint8
	for i := range m {
		if i != row {
			rest = append(rest, slices.Concat(m[i][:column], m[i][column+1:]))
		}
	}
	return rest
}

// determinant is expanded along the first row; signs do not count in this field.
func determinant(m [][]uint8) uint8 {
	if len(m) == 0 {
		return 1
	}
	var sum uint8
	for j := range m[0] {
		sum ^= gf.Mul(m[0][j], determinant(without(m, 0, j)))
	}
	return sum
}

// wantRank is the size of the greatest square part whose determinant is not 0.
func wantRank(m [][]uint8) int {
	if len(m) == len(m[0]) && determinant(m) != 0 {
		return len(m)
	}
	rank := 0
	if len(m) > 1 && len(m) >= len(m[0]) {
		for i := range m {
			rank = max(rank, wantRank(slices.Concat(m[:i], m[i+1:])))
		}
	}
	if len(m[0]) > 1 && len(m[0]) >= len(m) {
		for j := range m[0] {
			rank = max(rank, wantRank(without(m, -1, j)))
		}
	}
	return rank
}

// wantInverse is made of determinants; nil, if there is none.
func wantInverse(m [][]uint8) [][]uint8 {
	whole := determinant(m)
	if whole == 0 {
		return nil
	}
	inverse := zeros(len(m), len(m))
	for i := range m {
		for j := range m {
			inverse[i][j] = gf.Mul(determinant(without(m, j, i)), wantInv(whole))
		}
	}
	return inverse
}

// measures are those that the laws go through: one, few, the greatest.
func measures() []int { return []int{1, 2, 3, 12, 16, api.MaxMatrix - 1, api.MaxMatrix} }

// notNumbers are below 1 or above most.
func notNumbers(most int) []int {
	return []int{0, -1, -256, math.MinInt, most + 1, 256, 257, 1 << 32, 1<<32 + 1, math.MaxInt}
}

// wrong has matrices that may not be.
func wrong() map[string][][]uint8 {
	return map[string][][]uint8{
		"nil":                            nil,
		"no rows":                        {},
		"no rows, with room":             some(3, 3, 1)[:0],
		"a row that is nil":              {nil},
		"a row without bytes":            {{}},
		"rows without bytes":             {{}, {}, nil},
		"a first row without bytes":      {{}, {1}},
		"a last row without bytes":       {{1}, {}},
		"a last row that is nil":         {{1}, {1}, nil},
		"a longer last row":              {{1}, {1, 2}},
		"a shorter last row":             {{1, 2}, {1}},
		"a longer row between":           {{1, 2}, {1, 2, 3}, {1, 2}},
		"a longer first row":             {{1, 2, 3}, {1, 2}, {1, 2}},
		"a row too many":                 some(api.MaxMatrix+1, 1, 1),
		"a column too many":              some(1, api.MaxMatrix+1, 1),
		"a row too many of many":         some(api.MaxMatrix+1, api.MaxMatrix, 1),
		"a column too many of many":      some(api.MaxMatrix, api.MaxMatrix+1, 1),
		"a row and a column too many":    some(api.MaxMatrix+1, api.MaxMatrix+1, 1),
		"a last row with one too many":   append(some(api.MaxMatrix-1, api.MaxMatrix, 1), make([]uint8, api.MaxMatrix+1)),
		"very many rows":                 make([][]uint8, 1<<20),
		"a very long row":                {make([]uint8, 1<<20)},
		"256 rows":                       some(256, 1, 1),
		"257 rows":                       some(257, 1, 1),
		"257 columns":                    some(1, 257, 1),
		"a longest row beside one of it": {make([]uint8, api.MaxMatrix), make([]uint8, api.MaxMatrix-1)},
	}
}

func TestP3_1CheckWhatMayBe(t *testing.T) {
	for _, rows := range measures() {
		for _, columns := range measures() {
			for _, m := range [][][]uint8{some(rows, columns, 1), zeros(rows, columns)} {
				if err := Check(m); err != api.OK {
					t.Fatalf("Check of %d rows, %d columns is %d", rows, columns, err)
				}
			}
		}
	}
	row := []uint8{1, 2, 3}
	if err := Check([][]uint8{row, row, row[:3:3]}); err != api.OK {
		t.Fatalf("Check of one row thrice is %d", err)
	}
}

func TestP3_1CheckWhatMayNotBe(t *testing.T) {
	for what, m := range wrong() {
		if err := Check(m); err != api.ErrMatrix {
			t.Errorf("Check of %s is %d, want ErrMatrix", what, err)
		}
	}
}

func TestP3_1One(t *testing.T) {
	check(t, "One(2)", answered(One(2)), [][]uint8{{1, 0}, {0, 1}})
	for n := 1; n <= api.MaxMatrix; n++ {
		check(t, "One", answered(One(n)), wantOne(n))
	}
	for _, n := range append(notNumbers(api.MaxMatrix), 33) {
		refused(t, "One of a wrong number", answered(One(n)), api.ErrParams)
	}
}

func TestP3_1Cauchy(t *testing.T) {
	check(t, "Cauchy(2, 2)", answered(Cauchy(2, 2)), [][]uint8{{142, 244}, {244, 142}})
	check(t, "Cauchy(1, 1)", answered(Cauchy(1, 1)), [][]uint8{{1}})
	for k := 1; k <= api.MaxK; k++ {
		for r := 1; r <= api.MaxR; r++ {
			want := zeros(r, k)
			for i := range r {
				for j := range k {
					want[i][j] = wantInv(uint8((k + i) ^ j))
				}
			}
			check(t, "Cauchy", answered(Cauchy(k, r)), want)
		}
	}
}

func TestP3_1CauchyWrong(t *testing.T) {
	refused(t, "Cauchy(13, 1)", answered(Cauchy(13, 1)), api.ErrParams)
	for _, k := range notNumbers(api.MaxK) {
		refused(t, "Cauchy of a wrong k", answered(Cauchy(k, 1)), api.ErrParams)
		refused(t, "Cauchy of a wrong k", answered(Cauchy(k, api.MaxR)), api.ErrParams)
		for _, r := range notNumbers(api.MaxR) {
			refused(t, "Cauchy of a wrong r", answered(Cauchy(1, r)), api.ErrParams)
			refused(t, "Cauchy of a wrong r", answered(Cauchy(api.MaxK, r)), api.ErrParams)
			refused(t, "Cauchy of a wrong k and r", answered(Cauchy(k, r)), api.ErrParams)
		}
	}
}

func TestP3_2Mul(t *testing.T) {
	check(t, "Mul((1 2) (0 1), (3) (4))", answered(Mul([][]uint8{{1, 2}, {0, 1}}, [][]uint8{{3}, {4}})), [][]uint8{{11}, {4}})
	for _, rows := range measures() {
		for _, inner := range measures() {
			for _, columns := range measures() {
				a, b := some(rows, inner, 1), some(inner, columns, 2)
				check(t, "Mul", answered(Mul(a, b)), wantMul(a, b, rows, columns))
			}
		}
	}
	a := some(4, 4, 3)
	check(t, "Mul of one with itself", answered(Mul(a, a)), wantMul(a, a, 4, 4))
}

func TestP3_2MulEveryTwoNumbers(t *testing.T) {
	for a := range 256 {
		for b := range 256 {
			check(t, "Mul", answered(Mul([][]uint8{{uint8(a)}}, [][]uint8{{uint8(b)}})), [][]uint8{{gf.Mul(uint8(a), uint8(b))}})
		}
	}
}

func TestP3_2MulWrong(t *testing.T) {
	refused(t, "Mul((1 2), (1 2))", answered(Mul([][]uint8{{1, 2}}, [][]uint8{{1, 2}})), api.ErrMatrix)
	for _, columns := range measures() {
		for _, rows := range measures() {
			if rows != columns {
				refused(t, "Mul of two that do not fit", answered(Mul(some(rows, columns, 1), some(rows, columns, 2))), api.ErrMatrix)
				refused(t, "Mul of two that do not fit", answered(Mul(some(3, columns, 1), some(rows, 3, 2))), api.ErrMatrix)
			}
		}
	}
	for what, m := range wrong() {
		for _, other := range wrong() {
			refused(t, "Mul of two wrong ones", answered(Mul(m, other)), api.ErrMatrix)
		}
		for _, n := range measures() {
			refused(t, "Mul with "+what, answered(Mul(m, wantOne(n))), api.ErrMatrix)
			refused(t, "Mul by "+what, answered(Mul(wantOne(n), m)), api.ErrMatrix)
		}
	}
}

func TestP3_2Turned(t *testing.T) {
	check(t, "Turned((1 2 3))", answered(Turned([][]uint8{{1, 2, 3}})), [][]uint8{{1}, {2}, {3}})
	for _, rows := range measures() {
		for _, columns := range measures() {
			m := some(rows, columns, 1)
			check(t, "Turned", answered(Turned(m)), wantTurned(m))
		}
	}
	for what, m := range wrong() {
		refused(t, "Turned of "+what, answered(Turned(m)), api.ErrMatrix)
	}
}

func TestP3_2Pick(t *testing.T) {
	check(t, "Pick((1) (2) (3), 2 0)", answered(Pick([][]uint8{{1}, {2}, {3}}, []int{2, 0})), [][]uint8{{3}, {1}})
	for _, rows := range measures() {
		for _, columns := range measures() {
			m := some(rows, columns, 1)
			for _, many := range measures() {
				var numbers []int
				var want [][]uint8
				for i := range many {
					number := (i*7 + 5) % rows
					numbers, want = append(numbers, number), append(want, m[number])
				}
				check(t, "Pick", answered(Pick(m, numbers)), want)
			}
		}
	}
	m := some(3, 2, 1)
	check(t, "Pick of one row twice", answered(Pick(m, []int{1, 1})), [][]uint8{m[1], m[1]})
	check(t, "Pick of the last row, first, last", answered(Pick(m, []int{2, 0, 2})), [][]uint8{m[2], m[0], m[2]})
	check(t, "Pick of one row as often as may be", answered(Pick([][]uint8{{9}}, make([]int, api.MaxMatrix))), slices.Repeat([][]uint8{{9}}, api.MaxMatrix))
}

func TestP3_2PickWrong(t *testing.T) {
	refused(t, "Pick((1), 1)", answered(Pick([][]uint8{{1}}, []int{1})), api.ErrParams)
	for _, rows := range measures() {
		m := some(rows, 2, 1)
		for _, none := range [][]int{nil, {}, make([]int, 0, 3)} {
			refused(t, "Pick of no rows", answered(Pick(m, none)), api.ErrParams)
		}
		for _, many := range []int{api.MaxMatrix + 1, 256, 257, 1 << 20} {
			refused(t, "Pick of too many rows", answered(Pick(m, make([]int, many))), api.ErrParams)
		}
		for _, number := range []int{-1, -rows, math.MinInt, rows, rows + 1, 256, 1 << 32, math.MaxInt} {
			refused(t, "Pick of no row", answered(Pick(m, []int{number})), api.ErrParams)
			refused(t, "Pick of no row first", answered(Pick(m, []int{number, 0})), api.ErrParams)
			refused(t, "Pick of no row last", answered(Pick(m, []int{0, rows - 1, number})), api.ErrParams)
		}
	}
	for what, m := range wrong() {
		for _, numbers := range [][]int{{0}, nil, {-1}, {1 << 20}, make([]int, api.MaxMatrix+1)} {
			refused(t, "Pick from "+what, answered(Pick(m, numbers)), api.ErrMatrix)
		}
	}
}

func TestP3_3RankExamples(t *testing.T) {
	checkRank(t, [][]uint8{{1, 2}, {2, 4}}, 1)
	checkRank(t, [][]uint8{{0, 0}}, 0)
	checkRank(t, [][]uint8{{1, 2}, {2, 5}}, 2)
}

func TestP3_3RankColumnsWithoutNumber(t *testing.T) {
	checkRank(t, [][]uint8{{0}}, 0)
	checkRank(t, [][]uint8{{7}}, 1)
	checkRank(t, [][]uint8{{0}, {0}, {3}}, 1)
	checkRank(t, [][]uint8{{0, 0, 5}}, 1)
	checkRank(t, [][]uint8{{0, 1}, {1, 0}}, 2)
	checkRank(t, [][]uint8{{0, 1, 2}, {0, 2, 4}, {0, 0, 9}}, 2)
	checkRank(t, [][]uint8{{0, 1, 0, 0}, {0, 0, 0, 1}}, 2)
	checkRank(t, [][]uint8{{1, 1, 0, 0}, {1, 1, 0, 3}, {0, 0, 0, 5}}, 2)
	checkRank(t, [][]uint8{{1, 2, 3}, {4, 5, 6}, {5, 7, 5}}, 2)
	for _, rows := range measures() {
		for _, columns := range measures() {
			checkRank(t, zeros(rows, columns), 0)
			m := zeros(rows, columns)
			m[rows-1][columns-1] = 1
			checkRank(t, m, 1)
		}
	}
}

func TestP3_3RankSmall(t *testing.T) {
	for rows := 1; rows <= 4; rows++ {
		for columns := 1; columns <= 4; columns++ {
			for seed := range 60 {
				m := sparse(rows, columns, seed)
				checkRank(t, m, wantRank(m))
			}
			m := some(rows, columns, 1)
			checkRank(t, m, wantRank(m))
		}
	}
}

func TestP3_3RankGreat(t *testing.T) {
	for _, rows := range []int{1, 4, 16, 31, 32} {
		for _, columns := range []int{1, 4, 16, 31, 32} {
			for rank := range min(rows, columns) + 1 {
				for seed := range 3 {
					checkRank(t, ofRank(rows, columns, rank, seed), rank)
				}
			}
		}
	}
}

func TestP3_3RankWrong(t *testing.T) {
	for what, m := range wrong() {
		if n, err := Rank(m); n != 0 || err != api.ErrMatrix {
			t.Errorf("Rank of %s is %d, %d, want ErrMatrix", what, n, err)
		}
	}
}

func TestP3_3InverseExamples(t *testing.T) {
	check(t, "Inverse((2))", answered(Inverse([][]uint8{{2}})), [][]uint8{{142}})
	check(t, "Inverse((0 1) (1 0))", answered(Inverse([][]uint8{{0, 1}, {1, 0}})), [][]uint8{{0, 1}, {1, 0}})
	refused(t, "Inverse((1 1) (1 1))", answered(Inverse([][]uint8{{1, 1}, {1, 1}})), api.ErrLost)
	refused(t, "Inverse((1 2))", answered(Inverse([][]uint8{{1, 2}})), api.ErrMatrix)
}

func TestP3_3InverseOfNumbers(t *testing.T) {
	for a := 1; a < 256; a++ {
		check(t, "Inverse", answered(Inverse([][]uint8{{uint8(a)}})), [][]uint8{{wantInv(uint8(a))}})
	}
	refused(t, "Inverse((0))", answered(Inverse([][]uint8{{0}})), api.ErrLost)
}

func TestP3_3InverseSmall(t *testing.T) {
	lost, found := 0, 0
	for n := 1; n <= 4; n++ {
		for seed := range 200 {
			for _, m := range [][][]uint8{some(n, n, seed), sparse(n, n, seed)} {
				want := wantInverse(m)
				if want == nil {
					lost++
					refused(t, "Inverse", answered(Inverse(m)), api.ErrLost)
					continue
				}
				found++
				check(t, "Inverse", answered(Inverse(m)), want)
			}
		}
	}
	if lost < 100 || found < 100 {
		t.Fatalf("%d without an inverse, %d with one: too few to tell", lost, found)
	}
}

// turnedRound is One with its rows the other way round: each row but one begins with 0.
func turnedRound(n int) [][]uint8 {
	m := wantOne(n)
	slices.Reverse(m)
	return m
}

func TestP3_3InverseGreat(t *testing.T) {
	for _, n := range []int{1, 4, 16, 31, api.MaxMatrix} {
		check(t, "Inverse of rows turned round", answered(Inverse(turnedRound(n))), turnedRound(n))
		for seed := range 5 {
			m := ofRank(n, n, n, seed)
			for range seed { // mixed, so that no row is a unit row any more
				m = wantMul(m, ofRank(n, n, n, seed+10), n, n)
				m = wantMul(m, cauchyLike(n), n, n)
			}
			inverse := must(Inverse(m))
			if !same(wantMul(m, inverse, n, n), wantOne(n)) {
				t.Fatalf("%d rows: the product with Inverse is not One", n)
			}
		}
	}
}

// cauchyLike has an inverse for every n: it is a Cauchy matrix of more rows than Cauchy makes.
func cauchyLike(n int) [][]uint8 {
	m := zeros(n, n)
	for i := range n {
		for j := range n {
			m[i][j] = wantInv(uint8((n + i) ^ j))
		}
	}
	return m
}

func TestP3_3InverseLost(t *testing.T) {
	for _, n := range []int{4, 16, 31, api.MaxMatrix} {
		for rank := range n {
			refused(t, "Inverse of too small a rank", answered(Inverse(ofRank(n, n, rank, rank))), api.ErrLost)
		}
		for _, place := range []int{0, 1, n - 1} {
			m := cauchyLike(n)
			m[place] = make([]uint8, n)
			refused(t, "Inverse with a row of 0", answered(Inverse(m)), api.ErrLost)
			m = cauchyLike(n)
			for i := range m {
				m[i][place] = 0
			}
			refused(t, "Inverse with a column of 0", answered(Inverse(m)), api.ErrLost)
			m = cauchyLike(n)
			m[(place+1)%n] = m[place]
			refused(t, "Inverse with one row twice", answered(Inverse(m)), api.ErrLost)
		}
	}
}

func TestP3_3InverseWrong(t *testing.T) {
	for what, m := range wrong() {
		refused(t, "Inverse of "+what, answered(Inverse(m)), api.ErrMatrix)
	}
	for _, rows := range measures() {
		for _, columns := range measures() {
			if rows != columns {
				refused(t, "Inverse of what is not square", answered(Inverse(some(rows, columns, 1))), api.ErrMatrix)
				refused(t, "Inverse of 0, not square", answered(Inverse(zeros(rows, columns))), api.ErrMatrix)
			}
		}
	}
}

// roomy lays the rows of m side by side in one memory, with bytes between them, as spare room of each row.
func roomy(m [][]uint8) (rows [][]uint8, memory []uint8) {
	const gap = 40
	width := len(m[0]) + gap
	memory = bytes.Repeat([]uint8{99}, len(m)*width)
	rows = make([][]uint8, len(m), len(m)+gap)
	for i := range m {
		rows[i] = memory[i*width : i*width+len(m[i])]
		copy(rows[i], m[i])
	}
	for i := range gap {
		rows[:cap(rows)][len(m)+i] = memory[:1]
	}
	return rows, memory
}

// apart writes into each row of an answer, its spare room too, and asks whether another row has changed.
func apart(t *testing.T, call string, m [][]uint8) {
	t.Helper()
	for i := range m {
		m[i] = m[i][:cap(m[i])]
		for j := range m[i] {
			m[i][j] = uint8(i + 1)
		}
	}
	for i := range m {
		if len(m[i]) == 0 || !bytes.Equal(m[i], bytes.Repeat([]uint8{uint8(i + 1)}, len(m[i]))) {
			t.Fatalf("%s: the row %d shares memory with another one", call, i)
		}
	}
	clear(m[:cap(m)])
}

func TestP3_4OnlyReadAndNewMemory(t *testing.T) {
	for _, n := range []int{1, 2, 5, api.MaxMatrix} {
		a, aMemory := roomy(cauchyLike(n))
		b, bMemory := roomy(some(n, n, 2))
		numbers := make([]int, n, n+9)
		aRows, aBefore, bRows, bBefore := slices.Clone(a[:cap(a)]), bytes.Clone(aMemory), slices.Clone(b[:cap(b)]), bytes.Clone(bMemory)
		calls := map[string]func() answer{
			"One":                   func() answer { return answered(One(n)) },
			"Cauchy":                func() answer { return answered(Cauchy(min(n, api.MaxK), min(n, api.MaxR))) },
			"Mul":                   func() answer { return answered(Mul(a, b)) },
			"Mul with itself":       func() answer { return answered(Mul(a, a)) },
			"Turned":                func() answer { return answered(Turned(a)) },
			"Pick":                  func() answer { return answered(Pick(b, numbers)) },
			"Inverse":               func() answer { return answered(Inverse(a)) },
			"Inverse that is lost":  func() answer { Inverse(slices.Repeat(b[:1], n)); return answered(Turned(b)) },
			"Check, then Rank":      func() answer { Check(a); Rank(a); Rank(b); return answered(Turned(a)) },
			"Turned of one column":  func() answer { return answered(Turned(must(Pick(must(Turned(a)), []int{0})))) },
			"Pick of all as it was": func() answer { return answered(Pick(a, everyRow(n))) },
		}
		for call, made := range calls {
			got := made()
			first := cloned(must(got.m, got.err))
			apart(t, call, got.m)
			if !bytes.Equal(aMemory, aBefore) || !bytes.Equal(bMemory, bBefore) || !sameRows(a[:cap(a)], aRows) || !sameRows(b[:cap(b)], bRows) {
				t.Fatalf("%s with %d rows has changed what was handed in", call, n)
			}
			if slices.Max(numbers[:cap(numbers)]) != 0 {
				t.Fatalf("%s with %d rows has changed the rows' numbers", call, n)
			}
			check(t, call+" once more", made(), first)
		}
	}
}

// everyRow has the numbers of n rows.
func everyRow(n int) []int {
	var numbers []int
	for i := range n {
		numbers = append(numbers, i)
	}
	return numbers
}

func cloned(m [][]uint8) [][]uint8 {
	var clone [][]uint8
	for _, row := range m {
		clone = append(clone, bytes.Clone(row))
	}
	return clone
}

// sameRows tells whether two lists name the same rows, in memory.
func sameRows(a, b [][]uint8) bool {
	return slices.EqualFunc(a, b, func(x, y []uint8) bool { return len(x) == len(y) && &x[0] == &y[0] })
}

func TestP3_4OnlyReadWhereRefused(t *testing.T) {
	m, memory := roomy(some(3, 3, 1))
	m[1] = m[1][:2]
	before := bytes.Clone(memory)
	Check(m)
	Mul(m, m)
	Mul(m[:1], m)
	Turned(m)
	Pick(m, []int{0})
	Pick(m[:1], []int{3})
	Rank(m)
	Inverse(m)
	Inverse(m[:1])
	if !bytes.Equal(memory, before) || len(m[1]) != 2 {
		t.Fatal("a call that was refused has changed what was handed in")
	}
}

func TestP3_4LaterWritesIntoArguments(t *testing.T) {
	a, b, numbers := cauchyLike(3), some(3, 3, 2), []int{2, 0, 1}
	answers := []answer{answered(Mul(a, b)), answered(Turned(a)), answered(Pick(a, numbers)), answered(Inverse(a))}
	var before [][][]uint8
	for _, got := range answers {
		before = append(before, cloned(must(got.m, got.err)))
	}
	for i := range 3 {
		copy(a[i], []uint8{9, 9, 9})
		copy(b[i], []uint8{9, 9, 9})
		numbers[i] = 0
	}
	for i, got := range answers {
		check(t, "an answer that is kept", got, before[i])
	}
}

func TestP3_5Products(t *testing.T) {
	for _, l := range [][4]int{{1, 1, 1, 1}, {1, 5, 1, 5}, {5, 1, 5, 1}, {2, 3, 4, 5}, {32, 1, 32, 1}, {1, 32, 1, 32}, {32, 31, 30, 32}, {32, 32, 32, 32}} {
		a, b, c := some(l[0], l[1], 1), some(l[1], l[2], 2), some(l[2], l[3], 3)
		check(t, "a product of three", answered(Mul(must(Mul(a, b)), c)), must(Mul(a, must(Mul(b, c)))))
		check(t, "a product with One", answered(Mul(a, must(One(l[1])))), a)
		check(t, "a product of One", answered(Mul(must(One(l[0])), a)), a)
		check(t, "Turned of a product", answered(Turned(must(Mul(a, b)))), must(Mul(must(Turned(b)), must(Turned(a)))))
		check(t, "Turned twice", answered(Turned(must(Turned(a)))), a)
	}
}

func TestP3_5InverseOnBothSides(t *testing.T) {
	for _, n := range measures() {
		for _, m := range [][][]uint8{wantOne(n), turnedRound(n), cauchyLike(n), must(Mul(cauchyLike(n), turnedRound(n)))} {
			inverse := must(Inverse(m))
			check(t, "a product with Inverse", answered(Mul(m, inverse)), wantOne(n))
			check(t, "a product of Inverse", answered(Mul(inverse, m)), wantOne(n))
			check(t, "Inverse twice", answered(Inverse(inverse)), m)
			check(t, "Inverse of Turned", answered(Inverse(must(Turned(m)))), must(Turned(inverse)))
		}
	}
}

func TestP3_5Rank(t *testing.T) {
	for _, rows := range []int{1, 2, 3, 4, 31, 32} {
		for _, columns := range []int{1, 2, 3, 4, 31, 32} {
			for seed := range 20 {
				m := sparse(rows, columns, seed)
				rank, err := Rank(m)
				if err != api.OK || rank < 0 || rank > min(rows, columns) {
					t.Fatalf("Rank of %d rows, %d columns is %d, %d", rows, columns, rank, err)
				}
				checkRank(t, must(Turned(m)), rank)
				if rows != columns {
					continue
				}
				if _, err = Inverse(m); (err == api.OK) != (rank == rows) {
					t.Fatalf("Inverse of %v answers %d, its Rank is %d", m, err, rank)
				}
			}
		}
	}
}

// choices calls visit with each choice of k of n numbers, rising.
func choices(n, k int, visit func([]int)) {
	var choose func(from int, chosen []int)
	choose = func(from int, chosen []int) {
		if len(chosen) == k {
			visit(slices.Clone(chosen))
			return
		}
		for i := from; i < n; i++ {
			choose(i+1, append(chosen, i))
		}
	}
	choose(0, nil)
}

func TestP3_6AnyRows(t *testing.T) {
	for k := 1; k <= api.MaxK; k++ {
		for r := 1; r <= api.MaxR; r++ {
			code := slices.Concat(must(One(k)), must(Cauchy(k, r)))
			choices(k+r, k, func(rows []int) {
				picked := must(Pick(code, rows))
				inverse, err := Inverse(picked)
				if err != api.OK {
					t.Fatalf("k %d, r %d: the rows %v have no Inverse: %d", k, r, rows, err)
				}
				check(t, "the product", answered(Mul(picked, inverse)), wantOne(k))
			})
		}
	}
}

func TestP3_6AnyOrder(t *testing.T) {
	code := slices.Concat(must(One(api.MaxK)), must(Cauchy(api.MaxK, api.MaxR)))
	choices(api.MaxDrives, api.MaxK, func(rows []int) {
		slices.Reverse(rows)
		checkRank(t, must(Pick(code, rows)), api.MaxK)
	})
}
