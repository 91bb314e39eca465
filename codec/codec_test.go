package codec

import (
	"bytes"
	"math"
	"math/bits"
	"slices"
	"testing"

	"twoslot/api"
	"twoslot/gf"
)

// answer is what a call answers that makes cells.
type answer struct {
	cells [][]byte
	err   api.Errno
}

func answered(cells [][]byte, e api.Errno) answer { return answer{cells, e} }

func same(a, b [][]byte) bool { return slices.EqualFunc(a, b, bytes.Equal) }

// check holds an answer against the cells that are asked for.
func check(t *testing.T, call string, got answer, want [][]byte) {
	t.Helper()
	if got.err != api.OK || !same(got.cells, want) {
		t.Fatalf("%s is %d: %s", call, got.err, told(got.cells, want))
	}
}

// told keeps what a failure tells short: cells may be long.
func told(got, want [][]byte) string {
	for i := range min(len(got), len(want)) {
		if !bytes.Equal(got[i], want[i]) {
			return "the cell " + string(rune('a'+i)) + " (a is the first one) is another one"
		}
	}
	if len(got) != len(want) {
		return "not as many cells as must be"
	}
	return "the cells are as they must be"
}

// refused asks for an error, with nothing beside it.
func refused(t *testing.T, call string, got answer, want api.Errno) {
	t.Helper()
	if got.err != want || got.cells != nil {
		t.Fatalf("%s is %d with %d cells, want %d", call, got.err, len(got.cells), want)
	}
}

// checkRow holds a row against the one that is asked for.
func checkRow(t *testing.T, k, r, cell int, want []uint8) {
	t.Helper()
	if row, err := Row(k, r, cell); err != api.OK || !bytes.Equal(row, want) {
		t.Fatalf("Row(%d, %d, %d) is %v, %d, want %v", k, r, cell, row, err, want)
	}
}

func refusedRow(t *testing.T, k, r, cell int) {
	t.Helper()
	if row, err := Row(k, r, cell); err != api.ErrParams || row != nil {
		t.Fatalf("Row(%d, %d, %d) is %v, %d, want ErrParams", k, r, cell, row, err)
	}
}

func checkVerify(t *testing.T, call string, k, r int, cells [][]byte, want bool) {
	t.Helper()
	if got, err := Verify(k, r, cells); got != want || err != api.OK {
		t.Fatalf("%s: Verify with k %d, r %d is %v, %d, want %v", call, k, r, got, err, want)
	}
}

func refusedVerify(t *testing.T, call string, k, r int, cells [][]byte, want api.Errno) {
	t.Helper()
	if got, err := Verify(k, r, cells); got || err != want {
		t.Fatalf("%s: Verify with k %d, r %d is %v, %d, want %d", call, k, r, got, err, want)
	}
}

// must is a call's cells, for the laws that are made of several calls.
func must(cells [][]byte, e api.Errno) [][]byte {
	if e != api.OK {
		panic(e)
	}
	return cells
}

// some makes cells by a rule, others for each seed.
func some(many, size, seed int) [][]byte {
	state := uint32(seed)*2654435761 + 12345
	cells := make([][]byte, many)
	for i := range cells {
		cells[i] = make([]byte, size)
		for j := range cells[i] {
			state = state*1664525 + 1013904223
			cells[i][j] = uint8(state >> 24)
		}
	}
	return cells
}

// wantInv goes through all elements.
func wantInv(a uint8) uint8 {
	for b := range 256 {
		if gf.Mul(a, uint8(b)) == 1 {
			return uint8(b)
		}
	}
	panic("no inverse")
}

// wantRow is made number by number.
func wantRow(k, cell int) []uint8 {
	row := make([]uint8, k)
	for j := range row {
		switch {
		case cell >= k:
			row[j] = wantInv(uint8(cell ^ j))
		case cell == j:
			row[j] = 1
		}
	}
	return row
}

// wantParity is made byte by byte.
func wantParity(k, r int, data [][]byte) [][]byte {
	parity := make([][]byte, r)
	for i := range parity {
		row := wantRow(k, k+i)
		parity[i] = make([]byte, len(data[0]))
		for j := range data {
			for place, b := range data[j] {
				parity[i][place] ^= gf.Mul(row[j], b)
			}
		}
	}
	return parity
}

// wantAll is all cells of some data cells.
func wantAll(k, r int, data [][]byte) [][]byte {
	return slices.Concat(data, wantParity(k, r, data))
}

// without leaves out the cells that have no bit in there.
func without(cells [][]byte, there uint) [][]byte {
	some := slices.Clone(cells)
	for i := range some {
		if there>>i&1 == 0 {
			some[i] = nil
		}
	}
	return some
}

// first is the bits of the first k of those that are there.
func first(k int, there uint) uint {
	for bits.OnesCount(there) > k {
		there ^= 1 << (bits.Len(there) - 1)
	}
	return there
}

// last is the bits of the last k of all cells.
func last(k, r int) uint { return (1<<k - 1) << r }

// codes calls visit with every k and r.
func codes(visit func(k, r int)) {
	for k := 1; k <= api.MaxK; k++ {
		for r := range api.MaxR + 1 {
			visit(k, r)
		}
	}
}

// choices calls visit with every choice of cells that has at least k of n.
func choices(k, n int, visit func(there uint)) {
	for there := range uint(1) << n {
		if bits.OnesCount(there) >= k {
			visit(there)
		}
	}
}

// notNumbers are below least or above most.
func notNumbers(least, most int) []int {
	return []int{least - 1, least - 2, -256, -1 << 32, math.MinInt, most + 1, most + 2, 256, 257, 1 << 32, 1<<32 + 1, math.MaxInt}
}

// wrongCodes has every kind of wrong k and wrong r, alone and together.
func wrongCodes(visit func(k, r int)) {
	for _, k := range notNumbers(1, api.MaxK) {
		visit(k, 0)
		visit(k, 1)
		visit(k, api.MaxR)
		for _, r := range notNumbers(0, api.MaxR) {
			visit(k, r)
		}
	}
	for _, r := range notNumbers(0, api.MaxR) {
		visit(1, r)
		visit(2, r)
		visit(api.MaxK, r)
	}
}

// fewCodes are the edges of k and r.
func fewCodes(visit func(k, r int)) {
	for _, k := range []int{1, 2, 3, api.MaxK} {
		for _, r := range []int{0, 1, 2, api.MaxR} {
			visit(k, r)
		}
	}
}

// wrongCells has lists of many cells that are refused, whether or not some may be missing.
func wrongCells(many int) map[string][][]byte {
	wrong := map[string][][]byte{
		"nil":                         nil,
		"no cells":                    {},
		"a cell too few":              some(many-1, 2, 1),
		"a cell too many":             some(many+1, 2, 1),
		"one missing cell too many":   append(some(many, 2, 1), nil),
		"missing cells, one too many": make([][]byte, many+1),
		"missing cells, one too few":  make([][]byte, many-1),
		"very many cells":             make([][]byte, 1<<20),
		"256 cells":                   some(256, 1, 1),
		"256 cells more":              some(256+many, 1, 1),
		"a byte too many everywhere":  slices.Repeat(some(1, api.MaxBytes+1, 1), many),
		"very many bytes everywhere":  slices.Repeat([][]byte{make([]byte, 1<<20)}, many),
	}
	for _, place := range []int{0, many / 2, many - 1} {
		for what, cell := range map[string][]byte{
			"a shorter cell":                 {9},
			"a longer cell":                  {9, 9, 9},
			"a cell of 256 bytes more":       make([]byte, 258),
			"a cell of MaxBytes":             make([]byte, api.MaxBytes),
			"a cell with a byte too many":    make([]byte, api.MaxBytes+1),
			"a cell with 2 bytes too many":   make([]byte, api.MaxBytes+2),
			"a cell that is by far too long": make([]byte, 1<<20),
		} {
			if many == 1 && len(cell) <= api.MaxBytes {
				continue // alone it is alike to all others
			}
			cells := some(many, 2, 1)
			cells[place] = cell
			wrong[what+" at "+string(rune('a'+place))] = cells
		}
	}
	return wrong
}

func TestP4_1RowExamples(t *testing.T) {
	checkRow(t, 2, 2, 1, []uint8{0, 1})
	checkRow(t, 2, 2, 2, []uint8{142, 244})
	refusedRow(t, 2, 2, 4)
	refusedRow(t, 0, 1, 0)
}

func TestP4_1RowEveryCell(t *testing.T) {
	codes(func(k, r int) {
		for cell := range k + r {
			checkRow(t, k, r, cell, wantRow(k, cell))
		}
	})
}

func TestP4_1RowWrong(t *testing.T) {
	codes(func(k, r int) {
		for _, cell := range append(notNumbers(0, k+r-1), -k, -k-r, 2*(k+r)) {
			refusedRow(t, k, r, cell)
		}
	})
	wrongCodes(func(k, r int) {
		for _, cell := range []int{0, 1, -1, 12, 16, math.MinInt, math.MaxInt} {
			refusedRow(t, k, r, cell)
		}
	})
}

func TestP4_2EncodeExamples(t *testing.T) {
	check(t, "Encode(2, 1, (1) (0))", answered(Encode(2, 1, [][]byte{{1}, {0}})), [][]byte{{142}})
	check(t, "Encode(1, 2, (5))", answered(Encode(1, 2, [][]byte{{5}})), [][]byte{{5}, {140}})
	check(t, "Encode(2, 0, (1) (2))", answered(Encode(2, 0, [][]byte{{1}, {2}})), nil)
	refused(t, "Encode(2, 1, (1) none)", answered(Encode(2, 1, [][]byte{{1}, nil})), api.ErrCells)
}

func TestP4_2EncodeEveryCode(t *testing.T) {
	codes(func(k, r int) {
		for _, size := range []int{1, 2, 8, 64, 257} {
			data := some(k, size, k+r+size)
			check(t, "Encode", answered(Encode(k, r, data)), wantParity(k, r, data))
		}
		zeros := slices.Repeat([][]byte{{0, 0, 0}}, k)
		check(t, "Encode of 0", answered(Encode(k, r, zeros)), slices.Repeat([][]byte{{0, 0, 0}}, r))
		alike := slices.Repeat(some(1, 3, 7), k)
		check(t, "Encode of one cell, in each place", answered(Encode(k, r, alike)), wantParity(k, r, alike))
	})
}

func TestP4_2EncodeEveryByte(t *testing.T) {
	every := make([]byte, 256)
	for b := range every {
		every[b] = uint8(b)
	}
	fewCodes(func(k, r int) {
		for place := range k {
			data := slices.Repeat([][]byte{make([]byte, 256)}, k)
			data[place] = every
			check(t, "Encode of every byte", answered(Encode(k, r, data)), wantParity(k, r, data))
		}
	})
}

func TestP4_2EncodeLongest(t *testing.T) {
	for _, l := range [][2]int{{1, 0}, {1, 1}, {3, 2}, {api.MaxK, 1}, {api.MaxK, api.MaxR}} {
		data := some(l[0], api.MaxBytes, 3)
		check(t, "Encode of MaxBytes bytes", answered(Encode(l[0], l[1], data)), wantParity(l[0], l[1], data))
	}
}

func TestP4_2EncodeWrong(t *testing.T) {
	fewCodes(func(k, r int) {
		for what, data := range wrongCells(k) {
			refused(t, "Encode of "+what, answered(Encode(k, r, data)), api.ErrCells)
		}
		for place := range k {
			for _, missing := range [][]byte{nil, {}, make([]byte, 0, 9)} {
				data := some(k, 2, 1)
				data[place] = missing
				refused(t, "Encode without a cell", answered(Encode(k, r, data)), api.ErrCells)
			}
		}
		refused(t, "Encode without any cell", answered(Encode(k, r, make([][]byte, k))), api.ErrCells)
		if r > 0 {
			refused(t, "Encode of all cells", answered(Encode(k, r, some(k+r, 2, 1))), api.ErrCells)
		}
	})
}

func TestP4_2EncodeWrongCodes(t *testing.T) {
	wrongCodes(func(k, r int) {
		for _, data := range [][][]byte{nil, {{1}}, {nil}, {{1}, {2, 3}}, some(2, 2, 1), some(api.MaxK, 2, 1), some(api.MaxK+1, 2, 1), {make([]byte, api.MaxBytes+1)}} {
			refused(t, "Encode of a wrong code", answered(Encode(k, r, data)), api.ErrParams)
		}
	})
}

func TestP4_3DecodeExamples(t *testing.T) {
	check(t, "Decode(2, 1, none (7) (9))", answered(Decode(2, 1, [][]byte{nil, {7}, {9}})), [][]byte{{227}, {7}, {9}})
	refused(t, "Decode(2, 1, none none (9))", answered(Decode(2, 1, [][]byte{nil, nil, {9}})), api.ErrLost)
	refused(t, "Decode(2, 1, (1) (2))", answered(Decode(2, 1, [][]byte{{1}, {2}})), api.ErrCells)
	refused(t, "Decode(2, 1, (1) (2 3) none)", answered(Decode(2, 1, [][]byte{{1}, {2, 3}, nil})), api.ErrCells)
}

func TestP4_3DecodeEveryChoice(t *testing.T) {
	codes(func(k, r int) {
		all := wantAll(k, r, some(k, 3, k+r))
		choices(k, k+r, func(there uint) {
			check(t, "Decode", answered(Decode(k, r, without(all, there))), all)
		})
	})
}

// TestP4_3DecodeFirstCount hands in cells that do not fit to one another: any k cells are the cells of one stripe, so that the first k and the parity of what comes out tell all of the answer.
func TestP4_3DecodeFirstCount(t *testing.T) {
	codes(func(k, r int) {
		cells := some(k+r, 2, k*r)
		choices(k, k+r, func(there uint) {
			got := must(Decode(k, r, without(cells, there)))
			if len(got) != k+r || !same(wantParity(k, r, got[:k]), got[k:]) {
				t.Fatalf("k %d, r %d, cells %b: the answer is no stripe", k, r, there)
			}
			for number := range k + r {
				if first(k, there)>>number&1 == 1 && !bytes.Equal(got[number], cells[number]) {
					t.Fatalf("k %d, r %d, cells %b: the cell %d is not as it was", k, r, there, number)
				}
			}
			check(t, "Decode of the first k alone", answered(Decode(k, r, without(cells, first(k, there)))), got)
		})
	})
}

func TestP4_3DecodeLongest(t *testing.T) {
	for _, l := range [][2]int{{1, 0}, {1, 1}, {2, 1}, {api.MaxK, api.MaxR}} {
		k, r := l[0], l[1]
		all := wantAll(k, r, some(k, api.MaxBytes, 5))
		whole := uint(1)<<(k+r) - 1
		for _, there := range []uint{whole, first(k, whole), last(k, r)} {
			check(t, "Decode of MaxBytes bytes", answered(Decode(k, r, without(all, there))), all)
		}
	}
}

func TestP4_3DecodeSizes(t *testing.T) {
	fewCodes(func(k, r int) {
		for _, size := range []int{1, 2, 8, 64, 255, 256, 257} {
			all := wantAll(k, r, some(k, size, size))
			for _, missing := range [][]byte{nil, {}, make([]byte, 0, 9), bytes.Repeat([]byte{7}, 9)[:0]} {
				cells := slices.Clone(all)
				for number := range r {
					cells[number*(k+r-1)/max(r, 1)] = missing
				}
				check(t, "Decode", answered(Decode(k, r, cells)), all)
			}
		}
	})
}

func TestP4_3DecodeLost(t *testing.T) {
	codes(func(k, r int) {
		all := wantAll(k, r, some(k, 1, 1))
		for there := range uint(1) << (k + r) {
			if bits.OnesCount(there) < k {
				refused(t, "Decode of too few cells", answered(Decode(k, r, without(all, there))), api.ErrLost)
			}
		}
	})
}

func TestP4_3DecodeWrong(t *testing.T) {
	fewCodes(func(k, r int) {
		n := k + r
		for what, cells := range wrongCells(n) {
			refused(t, "Decode of "+what, answered(Decode(k, r, cells)), api.ErrCells)
		}
		refused(t, "Decode of the data cells of a longer code", answered(Decode(k, api.MaxR, some(k, 1, 1))), api.ErrCells)
		for i := range n {
			for j := range i {
				cells := make([][]byte, n)
				cells[j], cells[i] = []byte{1, 2}, []byte{1}
				refused(t, "Decode of two that are not alike, ahead of too few", answered(Decode(k, r, cells)), api.ErrCells)
			}
			cells := make([][]byte, n)
			cells[i] = make([]byte, api.MaxBytes+1)
			refused(t, "Decode of one that is too long, ahead of too few", answered(Decode(k, r, cells)), api.ErrCells)
			cells = wantAll(k, r, some(k, 2, 1))
			cells[i] = cells[i][:1]
			if n > 1 {
				refused(t, "Decode of one that is not alike, though not needed", answered(Decode(k, r, cells)), api.ErrCells)
			}
		}
	})
}

func TestP4_3DecodeWrongCodes(t *testing.T) {
	wrongCodes(func(k, r int) {
		for _, cells := range [][][]byte{nil, {{1}}, {nil}, {nil, nil}, {{1}, {2, 3}}, some(3, 2, 1), some(api.MaxDrives, 2, 1), some(api.MaxDrives+1, 2, 1), {make([]byte, api.MaxBytes+1)}} {
			refused(t, "Decode of a wrong code", answered(Decode(k, r, cells)), api.ErrParams)
		}
	})
}

func TestP4_4VerifyExamples(t *testing.T) {
	checkVerify(t, "(227) (7) (9)", 2, 1, [][]byte{{227}, {7}, {9}}, true)
	checkVerify(t, "(227) (7) (8)", 2, 1, [][]byte{{227}, {7}, {8}}, false)
	checkVerify(t, "(226) (7) (9)", 2, 1, [][]byte{{226}, {7}, {9}}, false)
}

func TestP4_4VerifyEveryBit(t *testing.T) {
	codes(func(k, r int) {
		all := wantAll(k, r, some(k, 3, k+r))
		checkVerify(t, "all cells", k, r, all, true)
		for _, cell := range all {
			for place := range cell {
				for bit := range 8 {
					cell[place] ^= 1 << bit
					checkVerify(t, "a bit turned round", k, r, all, r == 0)
					cell[place] ^= 1 << bit
				}
			}
		}
	})
}

func TestP4_4VerifyEdges(t *testing.T) {
	checkVerify(t, "any cells without parity", 3, 0, some(3, 9, 1), true)
	checkVerify(t, "one cell alone", 1, 0, [][]byte{{7}}, true)
	all := wantAll(2, 2, some(2, 5, 1))
	checkVerify(t, "parity cells the other way round", 2, 2, [][]byte{all[0], all[1], all[3], all[2]}, false)
	checkVerify(t, "data cells the other way round", 2, 2, [][]byte{all[1], all[0], all[2], all[3]}, false)
	checkVerify(t, "zeros", api.MaxK, api.MaxR, slices.Repeat([][]byte{{0, 0}}, api.MaxDrives), true)
	all = wantAll(api.MaxK, api.MaxR, some(api.MaxK, api.MaxBytes, 1))
	checkVerify(t, "MaxBytes bytes", api.MaxK, api.MaxR, all, true)
	all[api.MaxDrives-1][api.MaxBytes-1]++
	checkVerify(t, "MaxBytes bytes, the last one another", api.MaxK, api.MaxR, all, false)
}

func TestP4_4VerifyWrong(t *testing.T) {
	fewCodes(func(k, r int) {
		n := k + r
		for what, cells := range wrongCells(n) {
			refusedVerify(t, what, k, r, cells, api.ErrCells)
		}
		for number := range n {
			for _, missing := range [][]byte{nil, {}, make([]byte, 0, 9)} {
				cells := wantAll(k, r, some(k, 2, 1))
				cells[number] = missing
				refusedVerify(t, "a missing cell", k, r, cells, api.ErrCells)
			}
		}
		refusedVerify(t, "no cell there", k, r, make([][]byte, n), api.ErrCells)
		if r > 0 {
			refusedVerify(t, "data cells alone", k, r, some(k, 2, 1), api.ErrCells)
		}
	})
	wrongCodes(func(k, r int) {
		for _, cells := range [][][]byte{nil, {{1}}, {nil}, {{1}, {2, 3}}, some(3, 2, 1), some(api.MaxDrives, 2, 1), {make([]byte, api.MaxBytes+1)}} {
			refusedVerify(t, "a wrong code", k, r, cells, api.ErrParams)
		}
	})
}

// roomy lays cells side by side in one memory, with bytes between them, as spare room of each cell; the list has spare room, too.
func roomy(cells [][]byte) (list [][]byte, memory []byte) {
	const gap = 40
	for range cells {
		memory = append(memory, bytes.Repeat([]byte{99}, len(cells[0])+gap)...)
	}
	list = make([][]byte, len(cells), len(cells)+gap)
	for i := range cells {
		from := i * (len(cells[0]) + gap)
		list[i] = memory[from : from+len(cells[i])]
		copy(list[i], cells[i])
	}
	for i := range gap {
		list[:cap(list)][len(cells)+i] = memory[:1]
	}
	return list, memory
}

// untouched tells whether a list names the same cells as before, its spare room too.
func untouched(list, before [][]byte) bool {
	return slices.EqualFunc(list[:cap(list)], before, func(a, b []byte) bool {
		return len(a) == len(b) && (len(a) == 0 || &a[0] == &b[0])
	})
}

// apart writes into each cell of an answer, its spare room too, and asks whether another cell has changed.
func apart(t *testing.T, call string, cells [][]byte) {
	t.Helper()
	for i := range cells {
		cells[i] = cells[i][:cap(cells[i])]
		for j := range cells[i] {
			cells[i][j] = uint8(i + 1)
		}
	}
	for i := range cells {
		if len(cells[i]) == 0 || !bytes.Equal(cells[i], bytes.Repeat([]byte{uint8(i + 1)}, len(cells[i]))) {
			t.Fatalf("%s: the cell %d shares memory with another one", call, i)
		}
	}
	clear(cells[:cap(cells)])
}

func cloned(cells [][]byte) [][]byte {
	var clone [][]byte
	for _, cell := range cells {
		clone = append(clone, bytes.Clone(cell))
	}
	return clone
}

// rows is all rows of a code, as if they were cells.
func rows(k, r int) answer {
	var all [][]byte
	for cell := range k + r {
		row, err := Row(k, r, cell)
		if err != api.OK {
			return answer{nil, err}
		}
		all = append(all, row)
	}
	return answer{all, api.OK}
}

func TestP4_5OnlyReadAndNewMemory(t *testing.T) {
	fewCodes(func(k, r int) {
		list, memory := roomy(wantAll(k, r, some(k, 5, 1)))
		data, dataMemory := roomy(list[:k])
		part, partMemory := roomy(without(list, last(k, r)))
		dataCells, cells, partCells := slices.Clone(data[:cap(data)]), slices.Clone(list[:cap(list)]), slices.Clone(part[:cap(part)])
		before, dataBefore, partBefore := bytes.Clone(memory), bytes.Clone(dataMemory), bytes.Clone(partMemory)
		for call, made := range map[string]func() answer{
			"Row":                        func() answer { return rows(k, r) },
			"Encode":                     func() answer { return answered(Encode(k, r, data)) },
			"Encode of a part":           func() answer { return answered(Encode(k, r, list[:k])) },
			"Decode of all":              func() answer { return answered(Decode(k, r, list)) },
			"Decode of the last":         func() answer { return answered(Decode(k, r, part)) },
			"Verify, then Decode":        func() answer { Verify(k, r, list); return answered(Decode(k, r, list)) },
			"Decode that is refused":     func() answer { Decode(k, api.MaxR+1, list); Decode(k, r, data); return rows(k, r) },
			"Encode that is refused":     func() answer { Encode(k, r, part[:k]); Encode(k+1, r, data); return rows(k, r) },
			"Decode that is lost":        func() answer { Decode(k, r, make([][]byte, k+r)); return rows(k, r) },
			"Decode of one cell, thrice": func() answer { return answered(Decode(2, 1, slices.Repeat(data[:1], 3))) },
		} {
			got := made()
			kept := cloned(must(got.cells, got.err))
			apart(t, call, got.cells)
			if !bytes.Equal(memory, before) || !bytes.Equal(dataMemory, dataBefore) || !bytes.Equal(partMemory, partBefore) || !untouched(data, dataCells) || !untouched(list, cells) || !untouched(part, partCells) {
				t.Fatalf("%s with k %d, r %d has changed what was handed in", call, k, r)
			}
			check(t, call+" once more", made(), kept)
		}
	})
}

func TestP4_5LaterWritesIntoArguments(t *testing.T) {
	fewCodes(func(k, r int) {
		list := wantAll(k, r, some(k, 5, 1))
		part := without(cloned(list), last(k, r))
		answers := []answer{answered(Encode(k, r, list[:k])), answered(Decode(k, r, list)), answered(Decode(k, r, part))}
		var before [][][]byte
		for _, got := range answers {
			before = append(before, cloned(must(got.cells, got.err)))
		}
		for number := range list {
			for place := range 5 {
				list[number][place] ^= 255
				if part[number] != nil {
					part[number][place] ^= 255
				}
			}
			list[number], part[number] = nil, nil
		}
		for i, got := range answers {
			check(t, "an answer that is kept", got, before[i])
		}
	})
}

func TestP4_6AnyCellsAreEnough(t *testing.T) {
	codes(func(k, r int) {
		data := some(k, 2, k+20*r)
		all := append(slices.Clone(data), must(Encode(k, r, data))...)
		checkVerify(t, "data and what Encode makes of them", k, r, all, true)
		choices(k, k+r, func(there uint) {
			check(t, "Decode of what is left", answered(Decode(k, r, without(all, there))), all)
		})
	})
}

func TestP4_6VerifyOfDecode(t *testing.T) {
	codes(func(k, r int) {
		cells := some(k+r, 1, k+r)
		choices(k, k+r, func(there uint) {
			got := must(Decode(k, r, without(cells, there)))
			checkVerify(t, "what Decode answers", k, r, got, true)
			check(t, "Encode of what Decode answers", answered(Encode(k, r, got[:k])), got[k:])
		})
	})
}

// plus is the sum of cells, byte by byte.
func plus(a, b [][]byte) [][]byte {
	sum := cloned(a)
	for i := range sum {
		for j := range sum[i] {
			sum[i][j] ^= b[i][j]
		}
	}
	return sum
}

func TestP4_6Sums(t *testing.T) {
	codes(func(k, r int) {
		for _, size := range []int{1, 9} {
			a, b := some(k, size, 1), some(k, size, 2)
			check(t, "Encode of a sum", answered(Encode(k, r, plus(a, b))), plus(must(Encode(k, r, a)), must(Encode(k, r, b))))
		}
	})
}

// bytesAt is the byte of each cell in one place, as cells of one byte.
func bytesAt(cells [][]byte, place int) [][]byte {
	var single [][]byte
	for _, cell := range cells {
		single = append(single, cell[place:place+1])
	}
	return single
}

func TestP4_6ByteByByte(t *testing.T) {
	codes(func(k, r int) {
		const size = 5
		data := some(k, size, k*r)
		whole := must(Encode(k, r, data))
		for place := range size {
			check(t, "Encode of the bytes in one place", answered(Encode(k, r, bytesAt(data, place))), bytesAt(whole, place))
			other := some(k, size, k*r+1)
			for i := range other {
				other[i][place] = data[i][place]
			}
			check(t, "the bytes in a place that stayed", answered(bytesAt(must(Encode(k, r, other)), place), api.OK), bytesAt(whole, place))
		}
	})
}
