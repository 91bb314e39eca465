package delta

import (
	"bytes"
	"math"
	"math/bits"
	"slices"
	"strconv"
	"testing"

	"twoslot/api"
	"twoslot/codec"
	"twoslot/gf"
)

// answer is what a call answers that makes cells.
type answer struct {
	cells [][]byte
	err   api.Errno
}

func answered(cells [][]byte, e api.Errno) answer { return answer{cells, e} }

// check holds an answer against the cells that are asked for.
func check(t *testing.T, call string, got answer, want [][]byte) {
	t.Helper()
	if got.err != api.OK || !slices.EqualFunc(got.cells, want, bytes.Equal) {
		t.Fatalf("%s is %d: %s", call, got.err, told(got.cells, want))
	}
}

// told keeps what a failure tells short: cells may be long.
func told(got, want [][]byte) string {
	for i := range min(len(got), len(want)) {
		if !bytes.Equal(got[i], want[i]) {
			return "the cell " + strconv.Itoa(i) + " is another one"
		}
	}
	if len(got) != len(want) {
		return "not as many cells as must be"
	}
	return "the cells are as they must be"
}

// refused asks for an error, with nothing beside it.
func refused(t *testing.T, call string, got answer, want api.Errno) {
	t.Helper()
	if got.err != want || got.cells != nil {
		t.Fatalf("%s is %d with %d cells, want %d", call, got.err, len(got.cells), want)
	}
}

func checkOf(t *testing.T, old, now, want []byte) {
	t.Helper()
	if got, err := Of(old, now); err != api.OK || !bytes.Equal(got, want) {
		t.Fatalf("Of cells of %d bytes is %d, with %d bytes, or other ones", len(old), err, len(got))
	}
}

func refusedOf(t *testing.T, old, now []byte) {
	t.Helper()
	if got, err := Of(old, now); err != api.ErrCells || got != nil {
		t.Fatalf("Of %d bytes and %d is %d with %d bytes, want ErrCells", len(old), len(now), err, len(got))
	}
}

// must is a call's cells, for the laws that are made of several calls.
func must(cells [][]byte, e api.Errno) [][]byte {
	if e != api.OK {
		panic(e)
	}
	return cells
}

// some makes cells by a rule, others for each seed.
func some(many, size, seed int) [][]byte {
	state := uint32(seed)*2654435761 + 12345
	cells := make([][]byte, many)
	for i := range cells {
		cells[i] = make([]byte, size)
		for j := range cells[i] {
			state = state*1664525 + 1013904223
			cells[i][j] = uint8(state >> 24)
		}
	}
	return cells
}

func one(size, seed int) []byte { return some(1, size, seed)[0] }

func zeros(many, size int) [][]byte {
	cells := make([][]byte, many)
	for i := range cells {
		cells[i] = make([]byte, size)
	}
	return cells
}

// upTo is the numbers of the data cells.
func upTo(k int) []int {
	numbers := make([]int, k)
	for i := range numbers {
		numbers[i] = i
	}
	return numbers
}

func cloned(cells [][]byte) [][]byte {
	var clone [][]byte
	for _, cell := range cells {
		clone = append(clone, bytes.Clone(cell))
	}
	return clone
}

// wantFactor goes through all elements: by what the parity cell with that number has the data cell.
func wantFactor(k, number, cell int) uint8 {
	for b := range 256 {
		if gf.Mul(uint8((k+number)^cell), uint8(b)) == 1 {
			return uint8(b)
		}
	}
	panic("no inverse")
}

// wantAll is made byte by byte.
func wantAll(k int, parity [][]byte, cells []int, deltas [][]byte) [][]byte {
	updated := cloned(parity)
	for number := range updated {
		for i, cell := range cells {
			factor := wantFactor(k, number, cell)
			for place, b := range deltas[i] {
				updated[number][place] ^= gf.Mul(factor, b)
			}
		}
	}
	return updated
}

// wantOf is made bit by bit, of sums of whole numbers.
func wantOf(old, now []byte) []byte {
	changed := make([]byte, len(old))
	for place := range old {
		for bit := range 8 {
			changed[place] |= (old[place]>>bit + now[place]>>bit) % 2 << bit
		}
	}
	return changed
}

// codes calls visit with every k and r.
func codes(visit func(k, r int)) {
	for k := 1; k <= api.MaxK; k++ {
		for r := range api.MaxR + 1 {
			visit(k, r)
		}
	}
}

// fewCodes are the edges of k and r.
func fewCodes(visit func(k, r int)) {
	for _, k := range []int{1, 2, 3, api.MaxK} {
		for _, r := range []int{0, 1, 2, api.MaxR} {
			visit(k, r)
		}
	}
}

// notNumbers are below least or above most.
func notNumbers(least, most int) []int {
	return []int{least - 1, least - 2, -256, -1 << 32, math.MinInt, most + 1, most + 2, 256, 257, 1 << 32, 1<<32 + 1, math.MaxInt}
}

// wrongCodes has every kind of wrong k and wrong r, alone and together.
func wrongCodes(visit func(k, r int)) {
	for _, k := range notNumbers(1, api.MaxK) {
		visit(k, 0)
		visit(k, 1)
		visit(k, api.MaxR)
		for _, r := range notNumbers(0, api.MaxR) {
			visit(k, r)
		}
	}
	for _, r := range notNumbers(0, api.MaxR) {
		visit(1, r)
		visit(2, r)
		visit(api.MaxK, r)
	}
}

// noCells are cells that may not be, alone or beside others of 2 bytes.
func noCells() map[string][]byte {
	return map[string][]byte{
		"nil":                 nil,
		"no bytes":            {},
		"spare room alone":    make([]byte, 0, 9),
		"a byte too many":     make([]byte, api.MaxBytes+1),
		"two bytes too many":  make([]byte, api.MaxBytes+2),
		"by far too many":     make([]byte, 1<<20),
		"bytes by 2^16 again": make([]byte, 2*api.MaxBytes),
	}
}

// notAlike are cells that may be, but not beside others of 2 bytes.
func notAlike() map[string][]byte {
	return map[string][]byte{
		"a byte fewer":   {9},
		"a byte more":    {9, 9, 9},
		"256 bytes more": make([]byte, 258),
		"MaxBytes":       make([]byte, api.MaxBytes),
	}
}

// wrongLists has lists that are not many cells that may be and are alike.
func wrongLists(many int) map[string][][]byte {
	wrong := map[string][][]byte{
		"a cell too many":         some(many+1, 2, 1),
		"one that has no bytes":   append(some(many, 2, 1), nil),
		"256 cells more":          some(256+many, 1, 1),
		"very many cells":         make([][]byte, 1<<20),
		"two cells too many":      some(many+2, 2, 1),
		"another one, not alike":  append(some(many, 2, 1), []byte{1}),
		"another one, not at all": append(some(many, 2, 1), make([]byte, api.MaxBytes+1)),
	}
	if many == 0 {
		return wrong
	}
	wrong["nil"], wrong["none"] = nil, [][]byte{}
	wrong["a cell too few"] = some(many-1, 2, 1)
	for what, cell := range noCells() {
		wrong[what+" everywhere"] = slices.Repeat([][]byte{cell}, many)
	}
	for place := range many {
		for what, cell := range noCells() {
			wrong[what+" at "+strconv.Itoa(place)] = slices.Replace(some(many, 2, 1), place, place+1, cell)
		}
		for what, cell := range notAlike() {
			if many > 1 {
				wrong[what+" at "+strconv.Itoa(place)] = slices.Replace(some(many, 2, 1), place, place+1, cell)
			}
		}
	}
	return wrong
}

// wrongNumbers has lists of numbers that may not be: too many of them, some that are no data cell's, some that stand twice.
func wrongNumbers(k int) map[string][]int {
	wrong := map[string][]int{
		"one more than k":              append(upTo(k), 0),
		"one more than k, no number":   append(upTo(k), k),
		"two more than k":              append(upTo(k), k, k+1),
		"very many":                    make([]int, 1<<20),
		"256 more than k":              make([]int, 256+k),
		"one number more often than k": make([]int, k+1),
	}
	for _, number := range append(notNumbers(0, k-1), -k, 2*k) {
		for place := range k {
			cells := upTo(k)
			cells[place] = number
			wrong["the number "+strconv.Itoa(number)+" at "+strconv.Itoa(place)] = cells
		}
	}
	for i := range k {
		for j := range i {
			cells := upTo(k)
			cells[i] = j
			wrong["all, the number "+strconv.Itoa(j)+" also at "+strconv.Itoa(i)] = cells
			wrong["twice "+strconv.Itoa(j)+" alone"] = []int{j, j}
		}
	}
	return wrong
}

func TestP5_1OfExamples(t *testing.T) {
	checkOf(t, []byte{1, 2}, []byte{3, 2}, []byte{2, 0})
	refusedOf(t, []byte{1}, []byte{1, 2})
	refusedOf(t, nil, nil)
}

func TestP5_1OfEveryTwoBytes(t *testing.T) {
	for a := range 256 {
		for b := range 256 {
			old, now := []byte{uint8(a)}, []byte{uint8(b)}
			checkOf(t, old, now, wantOf(old, now))
		}
	}
}

func TestP5_1OfSizes(t *testing.T) {
	for _, size := range []int{1, 2, 8, 64, 255, 256, 257, api.MaxBytes - 1, api.MaxBytes} {
		old, now := one(size, 1), one(size, 2)
		checkOf(t, old, now, wantOf(old, now))
		checkOf(t, old, old, make([]byte, size))
		checkOf(t, old, make([]byte, size), old)
		checkOf(t, make([]byte, size), old, old)
		last := bytes.Clone(old)
		last[size-1] ^= 255
		checkOf(t, old, last, append(make([]byte, size-1), 255))
	}
}

func TestP5_1OfWrong(t *testing.T) {
	for _, cell := range noCells() {
		for _, other := range noCells() {
			refusedOf(t, cell, other)
		}
		for _, size := range []int{1, 2, len(cell), api.MaxBytes} {
			refusedOf(t, cell, make([]byte, size))
			refusedOf(t, make([]byte, size), cell)
		}
	}
	for _, cell := range notAlike() {
		refusedOf(t, cell, []byte{1, 2})
		refusedOf(t, []byte{1, 2}, cell)
	}
	refusedOf(t, make([]byte, api.MaxBytes), make([]byte, api.MaxBytes-1))
	refusedOf(t, make([]byte, 5, 9), make([]byte, 6, 9))
}

func TestP5_2ParityExamples(t *testing.T) {
	check(t, "Parity(2, 1, (142), 0, 1)", answered(Parity(2, 1, [][]byte{{142}}, 0, []byte{1})), [][]byte{{0}})
	check(t, "Parity(2, 1, (142), 1, 1)", answered(Parity(2, 1, [][]byte{{142}}, 1, []byte{1})), [][]byte{{122}})
	check(t, "Parity(2, 0, none, 0, 5)", answered(Parity(2, 0, nil, 0, []byte{5})), nil)
	refused(t, "Parity(2, 1, (142), 2, 1)", answered(Parity(2, 1, [][]byte{{142}}, 2, []byte{1})), api.ErrParams)
	refused(t, "Parity(2, 1, (142), 0, 1 1)", answered(Parity(2, 1, [][]byte{{142}}, 0, []byte{1, 1})), api.ErrCells)
}

func TestP5_2ParityEveryCell(t *testing.T) {
	codes(func(k, r int) {
		for cell := range k {
			for _, size := range []int{1, 2, 8, 64, 257} {
				parity, changed := some(r, size, k+r), one(size, cell)
				check(t, "Parity", answered(Parity(k, r, parity, cell, changed)), wantAll(k, parity, []int{cell}, [][]byte{changed}))
			}
		}
	})
}

func TestP5_2ParityEveryByte(t *testing.T) {
	every := make([]byte, 256)
	for b := range every {
		every[b] = uint8(b)
	}
	fewCodes(func(k, r int) {
		for cell := range k {
			parity := some(r, 256, cell)
			check(t, "Parity of every byte", answered(Parity(k, r, parity, cell, every)), wantAll(k, parity, []int{cell}, [][]byte{every}))
		}
	})
}

// longest has few of k and r, since the bytes are many.
func longest() [][2]int {
	return [][2]int{{1, 0}, {1, 1}, {3, 2}, {api.MaxK, 1}, {api.MaxK, api.MaxR}}
}

func TestP5_2ParityLongest(t *testing.T) {
	for _, l := range longest() {
		k, r := l[0], l[1]
		parity, changed := some(r, api.MaxBytes, 1), one(api.MaxBytes, 2)
		check(t, "Parity of MaxBytes bytes", answered(Parity(k, r, parity, k-1, changed)), wantAll(k, parity, []int{k - 1}, [][]byte{changed}))
	}
}

func TestP5_2ParityWrongCodes(t *testing.T) {
	wrongCodes(func(k, r int) {
		for _, parity := range [][][]byte{nil, {{1}}, {nil}, {{1}, {2, 3}}, some(api.MaxR, 1, 1), some(api.MaxR+1, 1, 1), {make([]byte, api.MaxBytes+1)}} {
			for _, cell := range []int{0, -1, k, math.MaxInt} {
				refused(t, "Parity with a wrong code", answered(Parity(k, r, parity, cell, []byte{1})), api.ErrParams)
				refused(t, "Parity with a wrong code and no delta", answered(Parity(k, r, parity, cell, nil)), api.ErrParams)
			}
		}
	})
}

func TestP5_2ParityWrongParity(t *testing.T) {
	fewCodes(func(k, r int) {
		for what, parity := range wrongLists(r) {
			refused(t, "Parity of "+what, answered(Parity(k, r, parity, k-1, []byte{1, 2})), api.ErrCells)
			refused(t, "Parity of "+what+", ahead of a wrong number", answered(Parity(k, r, parity, k, []byte{1, 2})), api.ErrCells)
			refused(t, "Parity of "+what+", ahead of a wrong number", answered(Parity(k, r, parity, -1, nil)), api.ErrCells)
			if len(parity) > 0 {
				refused(t, "Parity of "+what+" with a delta that is alike", answered(Parity(k, r, parity, 0, parity[0])), api.ErrCells)
			}
		}
	})
}

func TestP5_2ParityWrongCell(t *testing.T) {
	codes(func(k, r int) {
		for _, cell := range append(notNumbers(0, k-1), -k, k+r, k+r+1, 2*k) {
			parity := some(r, 2, 1)
			refused(t, "Parity with a wrong number", answered(Parity(k, r, parity, cell, []byte{1, 2})), api.ErrParams)
			refused(t, "Parity with a wrong number, ahead of no delta", answered(Parity(k, r, parity, cell, nil)), api.ErrParams)
			refused(t, "Parity with a wrong number, ahead of a delta that is not alike", answered(Parity(k, r, parity, cell, []byte{1})), api.ErrParams)
			refused(t, "Parity with a wrong number, ahead of a delta too long", answered(Parity(k, r, parity, cell, make([]byte, api.MaxBytes+1))), api.ErrParams)
		}
	})
}

func TestP5_2ParityWrongDelta(t *testing.T) {
	fewCodes(func(k, r int) {
		for cell := range k {
			for what, changed := range noCells() {
				refused(t, "Parity with a delta that is "+what, answered(Parity(k, r, some(r, 2, 1), cell, changed)), api.ErrCells)
			}
			for what, changed := range notAlike() {
				got := answered(Parity(k, r, some(r, 2, 1), cell, changed))
				if r > 0 {
					refused(t, "Parity with a delta of "+what, got, api.ErrCells)
				} else {
					check(t, "Parity without parity cells, with a delta of "+what, got, nil)
				}
			}
		}
	})
}

func TestP5_3AllExamples(t *testing.T) {
	check(t, "All(2, 1, (0), 0 1, (1) (1))", answered(All(2, 1, [][]byte{{0}}, []int{0, 1}, [][]byte{{1}, {1}})), [][]byte{{122}})
	check(t, "All(2, 1, (7), none, none)", answered(All(2, 1, [][]byte{{7}}, nil, nil)), [][]byte{{7}})
	refused(t, "All(2, 1, (0), 0 0, (1) (1))", answered(All(2, 1, [][]byte{{0}}, []int{0, 0}, [][]byte{{1}, {1}})), api.ErrParams)
	refused(t, "All(2, 1, (0), 0, none)", answered(All(2, 1, [][]byte{{0}}, []int{0}, nil)), api.ErrCells)
}

// choice is the numbers that have a bit in chosen.
func choice(k int, chosen uint) []int {
	var cells []int
	for cell := range k {
		if chosen>>cell&1 == 1 {
			cells = append(cells, cell)
		}
	}
	return cells
}

func TestP5_3AllEveryChoice(t *testing.T) {
	codes(func(k, r int) {
		parity, all := some(r, 3, k), some(k, 3, r)
		for chosen := range uint(1) << k {
			cells := choice(k, chosen)
			deltas := all[:len(cells)]
			check(t, "All", answered(All(k, r, parity, cells, deltas)), wantAll(k, parity, cells, deltas))
		}
	})
}

// orders calls visit with every order of numbers, by changing two of them at a time.
func orders(numbers []int, visit func(order []int)) {
	var choose func(from int)
	choose = func(from int) {
		if from == len(numbers) {
			visit(numbers)
			return
		}
		for i := from; i < len(numbers); i++ {
			numbers[from], numbers[i] = numbers[i], numbers[from]
			choose(from + 1)
			numbers[from], numbers[i] = numbers[i], numbers[from]
		}
	}
	choose(0)
}

// someOrders are enough where every order would be too many: each one turned round and begun at each place.
func someOrders(numbers []int, visit func(order []int)) {
	for range numbers {
		numbers = append(numbers[1:len(numbers):len(numbers)], numbers[0])
		visit(numbers)
		turned := slices.Clone(numbers)
		slices.Reverse(turned)
		visit(turned)
		slices.Sort(turned[len(turned)/2:])
		visit(turned)
	}
}

func TestP5_3AllEveryOrder(t *testing.T) {
	codes(func(k, r int) {
		parity, deltas := some(r, 2, k), some(k, 2, r)
		inOrder := func(cells []int) {
			check(t, "All in some order", answered(All(k, r, parity, cells, deltas)), wantAll(k, parity, cells, deltas))
		}
		if k <= 5 {
			orders(upTo(k), inOrder)
		}
		someOrders(upTo(k), inOrder)
	})
}

func TestP5_3AllNothing(t *testing.T) {
	codes(func(k, r int) {
		for _, size := range []int{1, 9, api.MaxBytes} {
			parity := some(r, size, k)
			check(t, "All of nothing", answered(All(k, r, parity, nil, nil)), parity)
			check(t, "All of empty lists", answered(All(k, r, parity, []int{}, [][]byte{})), parity)
		}
	})
	check(t, "All of nothing, no parity", answered(All(1, 0, [][]byte{}, nil, nil)), nil)
}

func TestP5_3AllSizes(t *testing.T) {
	fewCodes(func(k, r int) {
		for _, size := range []int{1, 2, 8, 64, 255, 256, 257} {
			parity, deltas := some(r, size, k), some(k, size, r)
			check(t, "All", answered(All(k, r, parity, upTo(k), deltas)), wantAll(k, parity, upTo(k), deltas))
		}
		alike := slices.Repeat([][]byte{{7, 8}}, k)
		check(t, "All by one delta everywhere", answered(All(k, r, some(r, 2, 1), upTo(k), alike)), wantAll(k, some(r, 2, 1), upTo(k), alike))
	})
	for _, l := range longest() {
		k, r := l[0], l[1]
		parity, deltas := some(r, api.MaxBytes, 1), some(k, api.MaxBytes, 2)
		check(t, "All of MaxBytes bytes", answered(All(k, r, parity, upTo(k), deltas)), wantAll(k, parity, upTo(k), deltas))
	}
}

func TestP5_3AllWrongCodes(t *testing.T) {
	wrongCodes(func(k, r int) {
		for _, parity := range [][][]byte{nil, {{1}}, {nil}, {{1}, {2, 3}}, some(api.MaxR, 1, 1), {make([]byte, api.MaxBytes+1)}} {
			for _, cells := range [][]int{nil, {0}, {-1}, {0, 0}, {k}, make([]int, 99)} {
				refused(t, "All with a wrong code", answered(All(k, r, parity, cells, some(len(cells), 1, 1))), api.ErrParams)
				refused(t, "All with a wrong code and wrong deltas", answered(All(k, r, parity, cells, [][]byte{nil})), api.ErrParams)
			}
		}
	})
}

func TestP5_3AllWrongParity(t *testing.T) {
	fewCodes(func(k, r int) {
		for what, parity := range wrongLists(r) {
			refused(t, "All of "+what, answered(All(k, r, parity, upTo(k), some(k, 2, 1))), api.ErrCells)
			refused(t, "All of "+what+", no deltas", answered(All(k, r, parity, nil, nil)), api.ErrCells)
			for _, cells := range [][]int{{k}, {-1}, {0, 0}, append(upTo(k), 0)} {
				refused(t, "All of "+what+", ahead of wrong numbers", answered(All(k, r, parity, cells, some(len(cells), 2, 1))), api.ErrCells)
				refused(t, "All of "+what+", ahead of wrong numbers", answered(All(k, r, parity, cells, nil)), api.ErrCells)
			}
		}
	})
}

func TestP5_3AllWrongNumbers(t *testing.T) {
	fewCodes(func(k, r int) {
		parity := some(r, 2, 1)
		for what, cells := range wrongNumbers(k) {
			few := min(len(cells), 300)
			refused(t, "All with "+what, answered(All(k, r, parity, cells, slices.Repeat([][]byte{{1, 2}}, len(cells)))), api.ErrParams)
			for _, deltas := range [][][]byte{nil, make([][]byte, len(cells)), some(few+1, 2, 1), some(few-1, 2, 1), some(few, 1, 1), some(few, 3, 1), {make([]byte, api.MaxBytes+1)}} {
				refused(t, "All with "+what+", ahead of wrong deltas", answered(All(k, r, parity, cells, deltas)), api.ErrParams)
			}
		}
		for _, cell := range append(notNumbers(0, k-1), k+r, -k) {
			refused(t, "All with one wrong number", answered(All(k, r, parity, []int{cell}, some(1, 2, 1))), api.ErrParams)
		}
	})
}

func TestP5_3AllWrongDeltas(t *testing.T) {
	fewCodes(func(k, r int) {
		parity := some(r, 2, 1)
		for many := range k + 1 {
			for what, deltas := range wrongLists(many) {
				refused(t, "All with deltas: "+what, answered(All(k, r, parity, upTo(many), deltas)), api.ErrCells)
			}
		}
		for what, delta := range notAlike() {
			for many := 1; many <= k; many++ {
				got := answered(All(k, r, parity, upTo(many), slices.Repeat([][]byte{delta}, many)))
				if r > 0 {
					refused(t, "All with all deltas of "+what, got, api.ErrCells)
				} else {
					check(t, "All without parity cells, all deltas of "+what, got, nil)
				}
			}
		}
	})
}

// roomy lays cells side by side in one memory, with bytes between them, as spare room of each cell; the list has spare room, too.
func roomy(cells [][]byte) (list [][]byte, memory []byte) {
	const gap = 40
	memory = bytes.Repeat([]byte{99}, gap)
	list = make([][]byte, len(cells), len(cells)+gap)
	for i := range cells {
		memory = append(memory, bytes.Repeat([]byte{99}, len(cells[i])+gap)...)
	}
	from := gap
	for i := range cells {
		list[i] = memory[from : from+len(cells[i])]
		copy(list[i], cells[i])
		from += len(cells[i]) + gap
	}
	for i := range gap {
		list[:cap(list)][len(cells)+i] = memory[:1]
	}
	return list, memory
}

// untouched tells whether a list names the same cells as before, its spare room too.
func untouched(list, before [][]byte) bool {
	return slices.EqualFunc(list[:cap(list)], before, func(a, b []byte) bool {
		return len(a) == len(b) && &a[0] == &b[0]
	})
}

// apart writes into each cell of an answer, its spare room too, and asks whether another cell has changed.
func apart(t *testing.T, call string, cells [][]byte) {
	t.Helper()
	for i := range cells {
		cells[i] = cells[i][:cap(cells[i])]
		for j := range cells[i] {
			cells[i][j] = uint8(i + 1)
		}
	}
	for i := range cells {
		if len(cells[i]) == 0 || !bytes.Equal(cells[i], bytes.Repeat([]byte{uint8(i + 1)}, len(cells[i]))) {
			t.Fatalf("%s: the cell %d shares memory with another one", call, i)
		}
	}
	clear(cells[:cap(cells)])
}

// single makes an answer of one cell a list of it.
func single(cell []byte, err api.Errno) answer { return answer{[][]byte{cell}, err} }

func TestP5_4OnlyReadAndNewMemory(t *testing.T) {
	fewCodes(func(k, r int) {
		parity, parityMemory := roomy(some(r, 5, 1))
		deltas, deltasMemory := roomy(some(k, 5, 2))
		numbers := append(upTo(k), slices.Repeat([]int{77}, 9)...)
		cells := numbers[:k]
		slices.Reverse(cells)
		parityBefore, deltasBefore := bytes.Clone(parityMemory), bytes.Clone(deltasMemory)
		parityCells, deltasCells, numbersBefore := slices.Clone(parity[:cap(parity)]), slices.Clone(deltas[:cap(deltas)]), slices.Clone(numbers)
		for call, made := range map[string]func() answer{
			"Of":                       func() answer { return single(Of(deltas[0], deltas[k-1])) },
			"Of a parity cell":         func() answer { return single(Of(parity[:cap(parity)][0], parity[:cap(parity)][0])) },
			"Parity":                   func() answer { return answered(Parity(k, r, parity, k-1, deltas[0])) },
			"All of nothing":           func() answer { return answered(All(k, r, parity, nil, nil)) },
			"All of one":               func() answer { return answered(All(k, r, parity, cells[:1], deltas[:1])) },
			"All":                      func() answer { return answered(All(k, r, parity, cells, deltas)) },
			"Parity that is refused":   func() answer { Parity(k, r, parity, k, deltas[0]); return single(Of(deltas[0], deltas[0])) },
			"All that is refused":      func() answer { All(k, r, parity, cells, deltas[:k-1]); return single(Of(deltas[0], deltas[0])) },
			"All with too many deltas": func() answer { All(k, r, parity, cells[:k-1], deltas); return single(Of(deltas[0], deltas[0])) },
			"All of one cell, as all":  func() answer { return answered(All(1, 2, slices.Repeat(deltas[:1], 2), []int{0}, deltas[:1])) },
		} {
			got := made()
			kept := cloned(must(got.cells, got.err))
			apart(t, call, got.cells)
			if !bytes.Equal(parityMemory, parityBefore) || !bytes.Equal(deltasMemory, deltasBefore) || !untouched(parity, parityCells) || !untouched(deltas, deltasCells) || !slices.Equal(numbers, numbersBefore) {
				t.Fatalf("%s with k %d, r %d has changed what was handed in", call, k, r)
			}
			check(t, call+" once more", made(), kept)
		}
	})
}

func TestP5_4LaterWritesIntoArguments(t *testing.T) {
	fewCodes(func(k, r int) {
		parity, deltas, cells := some(r, 5, 1), some(k, 5, 2), upTo(k)
		answers := []answer{
			single(Of(deltas[0], deltas[k-1])),
			answered(Parity(k, r, parity, 0, deltas[0])),
			answered(All(k, r, parity, cells, deltas)),
			answered(All(k, r, parity, nil, nil)),
		}
		var before [][][]byte
		for _, got := range answers {
			before = append(before, cloned(must(got.cells, got.err)))
		}
		for _, list := range [][][]byte{parity, deltas} {
			for i := range list {
				for place := range list[i] {
					list[i][place] ^= 255
				}
				list[i] = nil
			}
		}
		clear(cells)
		for i, got := range answers {
			check(t, "an answer that is kept", got, before[i])
		}
	})
}

// changed is the deltas of the chosen cells.
func changed(old, now [][]byte, cells []int) [][]byte {
	var deltas [][]byte
	for _, cell := range cells {
		d, err := Of(old[cell], now[cell])
		deltas = append(deltas, must([][]byte{d}, err)...)
	}
	return deltas
}

// replaced is the old cells with the chosen ones new.
func replaced(old, now [][]byte, cells []int) [][]byte {
	data := slices.Clone(old)
	for _, cell := range cells {
		data[cell] = now[cell]
	}
	return data
}

func TestP5_5ParityOfTheNewData(t *testing.T) {
	codes(func(k, r int) {
		old, now := some(k, 3, 1), some(k, 3, 2)
		parity := must(codec.Encode(k, r, old))
		for chosen := range uint(1) << k {
			cells := choice(k, chosen)
			updated := answered(All(k, r, parity, cells, changed(old, now, cells)))
			check(t, "All of the deltas", updated, must(codec.Encode(k, r, replaced(old, now, cells))))
		}
	})
}

func TestP5_5ParityOfTheNewDataLongest(t *testing.T) {
	for _, l := range longest() {
		k, r := l[0], l[1]
		old, now := some(k, api.MaxBytes, 1), some(k, api.MaxBytes, 2)
		updated := answered(All(k, r, must(codec.Encode(k, r, old)), upTo(k), changed(old, now, upTo(k))))
		check(t, "All of the deltas of MaxBytes bytes", updated, must(codec.Encode(k, r, now)))
	}
}

// oneByOne is Parity of each, one behind the other, in the order of at.
func oneByOne(k, r int, parity [][]byte, cells []int, deltas [][]byte, at []int) [][]byte {
	for _, i := range at {
		parity = must(Parity(k, r, parity, cells[i], deltas[i]))
	}
	return parity
}

func TestP5_5AllIsParityOfEach(t *testing.T) {
	codes(func(k, r int) {
		parity, all := some(r, 2, 1), some(k, 2, 2)
		for chosen := range uint(1) << k {
			if many := bits.OnesCount(chosen); many > 3 && many < k {
				continue // three and all are enough: their orders are many
			}
			cells := choice(k, chosen)
			deltas := all[:len(cells)]
			want := must(All(k, r, parity, cells, deltas))
			inOrder := func(at []int) {
				check(t, "Parity of each", answered(oneByOne(k, r, parity, cells, deltas, at), api.OK), want)
			}
			if len(cells) <= 4 {
				orders(upTo(len(cells)), inOrder)
			}
			someOrders(upTo(len(cells)), inOrder)
		}
	})
}

// TestP5_5AnyOrder names every data cell once, with the delta that goes with it, so that the answer is one and the same.
func TestP5_5AnyOrder(t *testing.T) {
	codes(func(k, r int) {
		parity, deltas := some(r, 2, 3), some(k, 2, 4)
		want := must(All(k, r, parity, upTo(k), deltas))
		inOrder := func(cells []int) {
			var moved [][]byte
			for _, cell := range cells {
				moved = append(moved, deltas[cell])
			}
			check(t, "All in another order", answered(All(k, r, parity, cells, moved)), want)
		}
		if k <= 6 {
			orders(upTo(k), inOrder)
		}
		someOrders(upTo(k), inOrder)
	})
}

func TestP5_5ZerosChangeNothing(t *testing.T) {
	codes(func(k, r int) {
		for _, size := range []int{1, 9} {
			parity := some(r, size, 1)
			for cell := range k {
				check(t, "Parity by zeros", answered(Parity(k, r, parity, cell, make([]byte, size))), parity)
			}
			check(t, "All by zeros", answered(All(k, r, parity, upTo(k), zeros(k, size))), parity)
		}
	})
}

func TestP5_5TwiceChangesNothing(t *testing.T) {
	codes(func(k, r int) {
		for _, size := range []int{1, 9} {
			parity, deltas := some(r, size, 1), some(k, size, 2)
			for cell := range k {
				once := must(Parity(k, r, parity, cell, deltas[cell]))
				if r > 0 && slices.EqualFunc(once, parity, bytes.Equal) {
					t.Fatal("a delta that is not 0 has changed nothing")
				}
				check(t, "Parity, twice", answered(Parity(k, r, once, cell, deltas[cell])), parity)
			}
			once := must(All(k, r, parity, upTo(k), deltas))
			check(t, "All, twice", answered(All(k, r, once, upTo(k), deltas)), parity)
		}
	})
}
