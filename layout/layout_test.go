package layout

import (
	"math"
	"slices"
	"strconv"
	"testing"

	"twoslot/api"
)

func exampleP() api.Params { return api.Params{K: 4, R: 2, Cell: 16, Rows: 32} }
func exampleQ() api.Params { return api.Params{K: 1, R: 0, Cell: 32, Rows: 8} }

// numbers are all that hang on parameters alone.
type numbers struct{ drives, width, direct, leaf, most int }

// made is what an object is made of.
type made struct{ stripes, depth, leaves, rows int }

// ofParams are the calls that parameters alone are handed to.
func ofParams() map[string]func(api.Params) (int, api.Errno) {
	return map[string]func(api.Params) (int, api.Errno){
		"Drives": Drives, "Width": Width, "Direct": Direct, "Leaf": Leaf, "Most": Most,
	}
}

// ofLengths are the calls that a length is handed to.
func ofLengths() map[string]func(api.Params, int) (int, api.Errno) {
	return map[string]func(api.Params, int) (int, api.Errno){
		"Stripes": Stripes, "Depth": Depth, "Leaves": Leaves, "Rows": Rows,
	}
}

// must is a call's number, for what is made of several calls.
func must(n int, err api.Errno) int {
	if err != api.OK {
		panic(err)
	}
	return n
}

func numbersOf(p api.Params) numbers {
	return numbers{must(Drives(p)), must(Width(p)), must(Direct(p)), must(Leaf(p)), must(Most(p))}
}

func madeOf(p api.Params, length int) made {
	return made{must(Stripes(p, length)), must(Depth(p, length)), must(Leaves(p, length)), must(Rows(p, length))}
}

func told(p api.Params, more ...int) string {
	text := "of"
	for _, n := range append([]int{p.K, p.R, p.Cell, p.Rows}, more...) {
		text += " " + strconv.Itoa(n)
	}
	return text
}

func checkNumbers(t *testing.T, p api.Params, want numbers) {
	t.Helper()
	if err := Check(p); err != api.OK {
		t.Fatalf("Check %s is %d", told(p), err)
	}
	if got := numbersOf(p); got != want {
		t.Fatalf("numbers %s are %v, want %v", told(p), got, want)
	}
}

func checkMade(t *testing.T, p api.Params, length int, want made) {
	t.Helper()
	if got := madeOf(p, length); got != want {
		t.Fatalf("an object %s is made of %v, want %v", told(p, length), got, want)
	}
}

func checkSpans(t *testing.T, p api.Params, off, n int, want []api.Span) {
	t.Helper()
	if got, err := Spans(p, off, n); err != api.OK || !slices.Equal(got, want) {
		t.Fatalf("Spans %s is %d with %d, or others than the %d that must be", told(p, off, n), err, len(got), len(want))
	}
}

func refusedParams(t *testing.T, p api.Params) {
	t.Helper()
	if err := Check(p); err != api.ErrParams {
		t.Fatalf("Check %s is %d, want ErrParams", told(p), err)
	}
	for name, call := range ofParams() {
		if n, err := call(p); err != api.ErrParams || n != 0 {
			t.Fatalf("%s %s is %d, %d, want 0, ErrParams", name, told(p), n, err)
		}
	}
}

func refusedLength(t *testing.T, p api.Params, length int, want api.Errno) {
	t.Helper()
	for name, call := range ofLengths() {
		if n, err := call(p, length); err != want || n != 0 {
			t.Fatalf("%s %s is %d, %d, want 0, %d", name, told(p, length), n, err, want)
		}
	}
}

func refusedSpans(t *testing.T, p api.Params, off, n int, want api.Errno) {
	t.Helper()
	if got, err := Spans(p, off, n); err != want || got != nil {
		t.Fatalf("Spans %s is %d with %d spans, want %d with none", told(p, off, n), err, len(got), want)
	}
}

// wantMay has the document's numbers, not api's names of them.
func wantMay(p api.Params) bool {
	return p.K > 0 && p.K < 13 && p.R > -1 && p.R < 5 && p.Cell > 7 && p.Cell < 65 && p.K*p.Cell > 31 && p.Rows > 7 && p.Rows < 257
}

// fit counts how many refs of 6 bytes there is room for.
func fit(room int) int {
	many := 0
	for ; room >= 6; room -= 6 {
		many++
	}
	return many
}

// wantNumbers is made by adding and counting.
func wantNumbers(p api.Params) numbers {
	var want numbers
	for range p.K {
		want.drives++
		want.width += p.Cell
	}
	for range p.R {
		want.drives++
	}
	want.direct, want.leaf = fit(want.width-7), fit(want.width)
	for range want.direct * want.leaf {
		want.most += want.width
	}
	if want.most > 32768 {
		want.most = 32768
	}
	return want
}

// needed counts how many parts of a size hold all.
func needed(all, size int) int {
	many := 0
	for held := 0; held < all; held += size {
		many++
	}
	return many
}

func wantMade(p api.Params, length int) made {
	with := wantNumbers(p)
	stripes := needed(length, with.width)
	if stripes <= with.direct {
		return made{stripes: stripes, rows: 1 + stripes}
	}
	leaves := needed(stripes, with.leaf)
	return made{stripes: stripes, depth: 1, leaves: leaves, rows: 1 + leaves + stripes}
}

// bytewise has for each byte of an object of the length Most the span of it alone.
func bytewise(p api.Params) []api.Span {
	most := wantNumbers(p).most
	var spans []api.Span
	for stripe := 0; len(spans) < most; stripe++ {
		for cell := range p.K {
			for place := range p.Cell {
				spans = append(spans, api.Span{Stripe: stripe, Cell: cell, From: place, To: place + 1})
			}
		}
	}
	return spans[:most]
}

// joined makes one span of all that are of one cell.
func joined(single []api.Span) []api.Span {
	var spans []api.Span
	for i, s := range single {
		if i > 0 && s.Stripe == single[i-1].Stripe && s.Cell == single[i-1].Cell {
			spans[len(spans)-1].To = s.To
		} else {
			spans = append(spans, s)
		}
	}
	return spans
}

// every calls visit with every K and Cell that may be; R and Rows go through their edges on the way.
func every(visit func(p api.Params)) {
	turn := 0
	for k := 1; k <= 12; k++ {
		for cell := 8; cell <= 64; cell++ {
			p := api.Params{K: k, R: turn % 5, Cell: cell, Rows: []int{8, 9, 255, 256}[turn%4]}
			if turn++; wantMay(p) {
				visit(p)
			}
		}
	}
}

// few are parameters at their edges: the narrowest stripes, the widest, those by which Most is just less than MaxObject, and just that.
func few() []api.Params {
	return []api.Params{
		exampleP(), exampleQ(),
		{K: 4, R: 0, Cell: 8, Rows: 8},
		{K: 1, R: 4, Cell: 64, Rows: 256},
		{K: 12, R: 4, Cell: 8, Rows: 8},
		{K: 3, R: 1, Cell: 11, Rows: 9},
		{K: 2, R: 2, Cell: 16, Rows: 100},
		{K: 9, R: 3, Cell: 12, Rows: 77},
		{K: 10, R: 1, Cell: 11, Rows: 255},
		{K: 12, R: 0, Cell: 64, Rows: 256},
	}
}

// notNumbers are below least or above most.
func notNumbers(least, most int) []int {
	return []int{
		least - 1, least - 2, -256, -1 << 32, math.MinInt + least, math.MinInt + 1, math.MinInt,
		most + 1, most + 2, most + 256, 1<<16 + least, 1<<32 + least, 1 << 59, 1 << 60, 1<<60 + least, 1<<62 + 1, math.MaxInt - 1, math.MaxInt,
	}
}

// with is parameters with one number of them changed.
func with(p api.Params, which, number int) api.Params {
	*[]*int{&p.K, &p.R, &p.Cell, &p.Rows}[which] = number
	return p
}

// wrongParams has every kind of wrong number at every place, alone and by twos.
func wrongParams(visit func(p api.Params)) {
	limits := [4][2]int{{1, 12}, {0, 4}, {8, 64}, {8, 256}}
	for _, p := range few() {
		for which, limit := range limits {
			for _, number := range notNumbers(limit[0], limit[1]) {
				visit(with(p, which, number))
				for also := range which {
					for _, another := range notNumbers(limits[also][0], limits[also][1]) {
						visit(with(with(p, which, number), also, another))
					}
				}
			}
		}
	}
	for _, p := range []api.Params{{}, {K: 1, R: 0, Cell: 31, Rows: 8}, {K: 2, R: 4, Cell: 15, Rows: 256}, {K: 3, R: 1, Cell: 10, Rows: 8}, {K: 3, R: 1, Cell: 8, Rows: 8}, {K: 1, R: 4, Cell: 8, Rows: 8}} {
		visit(p)
	}
}

// lengths are those at which an object's stripes, leaves and rows change.
func lengths(p api.Params) []int {
	n := wantNumbers(p)
	var all []int
	for _, stripes := range []int{0, 1, 2, 3, n.direct - 1, n.direct, n.direct + 1, n.leaf, n.leaf + 1, 2 * n.leaf, 3 * n.leaf, n.most / n.width} {
		for beside := -1; beside <= 1; beside++ {
			all = append(all, stripes*n.width+beside)
		}
	}
	all = append(all, n.most-1, n.most)
	return slices.DeleteFunc(all, func(length int) bool { return length < 0 || length > n.most })
}

// places are bytes by which ranges begin or end.
func places(p api.Params) []int {
	n := wantNumbers(p)
	var all []int
	for _, end := range []int{0, p.Cell, 2 * p.Cell, n.width, 2 * n.width, n.direct * n.width, n.most} {
		for beside := -1; beside <= 1; beside++ {
			all = append(all, end+beside)
		}
	}
	return slices.DeleteFunc(all, func(place int) bool { return place < 0 || place > n.most })
}

func TestP6_1Examples(t *testing.T) {
	checkNumbers(t, exampleP(), numbers{6, 64, 9, 10, 5760})
	checkNumbers(t, exampleQ(), numbers{1, 32, 4, 5, 640})
	refusedParams(t, api.Params{K: 13, R: 2, Cell: 16, Rows: 32})
	refusedParams(t, api.Params{K: 1, R: 2, Cell: 8, Rows: 32})
}

func TestP6_1CheckAllAround(t *testing.T) {
	for k := -1; k <= 14; k++ {
		for r := -2; r <= 6; r++ {
			for cell := 6; cell <= 66; cell++ {
				for rows := 6; rows <= 258; rows++ {
					p := api.Params{K: k, R: r, Cell: cell, Rows: rows}
					if err := Check(p); (err == api.OK) != wantMay(p) || err != api.OK && err != api.ErrParams {
						t.Fatalf("Check %s is %d", told(p), err)
					}
				}
			}
		}
	}
}

func TestP6_1NumbersOfEveryParams(t *testing.T) {
	for r := range 5 {
		for _, rows := range []int{8, 9, 100, 255, 256} {
			every(func(p api.Params) {
				p.R, p.Rows = r, rows
				checkNumbers(t, p, wantNumbers(p))
			})
		}
	}
}

func TestP6_1Edges(t *testing.T) {
	checkNumbers(t, api.Params{K: 4, R: 0, Cell: 8, Rows: 8}, numbers{4, 32, 4, 5, 640})
	checkNumbers(t, api.Params{K: 12, R: 4, Cell: 64, Rows: 256}, numbers{16, 768, 126, 128, 32768})
	checkNumbers(t, api.Params{K: 2, R: 0, Cell: 56, Rows: 8}, numbers{2, 112, 17, 18, 32768})
	checkNumbers(t, api.Params{K: 3, R: 0, Cell: 37, Rows: 8}, numbers{3, 111, 17, 18, 32768})
	checkNumbers(t, api.Params{K: 10, R: 0, Cell: 11, Rows: 8}, numbers{10, 110, 17, 18, 32768})
	checkNumbers(t, api.Params{K: 9, R: 4, Cell: 12, Rows: 8}, numbers{13, 108, 16, 18, 31104})
}

func TestP6_1WrongParams(t *testing.T) {
	wrongParams(func(p api.Params) { refusedParams(t, p) })
}

func TestP6_1ProductsThatWrap(t *testing.T) {
	for _, k := range []int{1 << 31, 1 << 32, 1 << 56, 1 << 58, 1 << 60, 1 << 61, 1 << 62, 1<<58 + 1, 1<<61 + 4, -1 << 58, -4, math.MaxInt, math.MinInt} {
		for _, cell := range []int{8, 16, 32, 64, -8, -16, 1 << 31, 1 << 32, 1<<32 + 8, 1 << 62, math.MaxInt, math.MinInt} {
			p := api.Params{K: k, Cell: cell, Rows: 8}
			refusedParams(t, p)
			p.K, p.Cell = 4, k
			refusedParams(t, p)
			p.Cell, p.R = 16, k
			refusedParams(t, p)
			p.R, p.Rows = 0, k
			refusedParams(t, p)
		}
	}
}

func TestP6_2Examples(t *testing.T) {
	checkMade(t, exampleP(), 0, made{0, 0, 0, 1})
	checkMade(t, exampleP(), 64, made{1, 0, 0, 2})
	checkMade(t, exampleP(), 65, made{2, 0, 0, 3})
	checkMade(t, exampleP(), 576, made{9, 0, 0, 10})
	checkMade(t, exampleP(), 577, made{10, 1, 1, 12})
	checkMade(t, exampleP(), 641, made{11, 1, 2, 14})
	refusedLength(t, exampleP(), 5761, api.ErrTooBig)
	refusedLength(t, exampleP(), -1, api.ErrParams)
}

func TestP6_2Edges(t *testing.T) {
	checkMade(t, exampleP(), 1, made{1, 0, 0, 2})
	checkMade(t, exampleP(), 640, made{10, 1, 1, 12})
	checkMade(t, exampleP(), 5760, made{90, 1, 9, 100})
	checkMade(t, exampleQ(), 128, made{4, 0, 0, 5})
	checkMade(t, exampleQ(), 129, made{5, 1, 1, 7})
	checkMade(t, exampleQ(), 640, made{20, 1, 4, 25})
	widest := api.Params{K: 12, R: 4, Cell: 64, Rows: 256}
	checkMade(t, widest, 32768, made{43, 0, 0, 44})
	narrower := api.Params{K: 2, R: 0, Cell: 56, Rows: 8}
	checkMade(t, narrower, 32768, made{293, 1, 17, 311})
}

func TestP6_2EveryLength(t *testing.T) {
	for _, p := range few() {
		for length := range wantNumbers(p).most + 1 {
			checkMade(t, p, length, wantMade(p, length))
		}
	}
}

func TestP6_2EveryParams(t *testing.T) {
	every(func(p api.Params) {
		for _, length := range lengths(p) {
			checkMade(t, p, length, wantMade(p, length))
		}
	})
}

func TestP6_2WrongLengths(t *testing.T) {
	every(func(p api.Params) {
		for _, length := range notNumbers(0, wantNumbers(p).most) {
			if length < 0 {
				refusedLength(t, p, length, api.ErrParams)
			} else {
				refusedLength(t, p, length, api.ErrTooBig)
			}
		}
	})
}

func TestP6_2WrongParamsFirst(t *testing.T) {
	wrongParams(func(p api.Params) {
		for _, length := range []int{0, 1, -1, api.MaxObject, api.MaxObject + 1, math.MaxInt, math.MinInt} {
			refusedLength(t, p, length, api.ErrParams)
		}
	})
}

func TestP6_3Examples(t *testing.T) {
	checkSpans(t, exampleP(), 10, 10, []api.Span{{Stripe: 0, Cell: 0, From: 10, To: 16}, {Stripe: 0, Cell: 1, From: 0, To: 4}})
	checkSpans(t, exampleP(), 60, 8, []api.Span{{Stripe: 0, Cell: 3, From: 12, To: 16}, {Stripe: 1, Cell: 0, From: 0, To: 4}})
	checkSpans(t, exampleP(), 5, 0, nil)
	refusedSpans(t, exampleP(), 5760, 1, api.ErrTooBig)
	refusedSpans(t, exampleP(), 1, math.MaxInt, api.ErrTooBig)
}

func TestP6_3Edges(t *testing.T) {
	checkSpans(t, exampleP(), 0, 1, []api.Span{{Stripe: 0, Cell: 0, From: 0, To: 1}})
	checkSpans(t, exampleP(), 17, 3, []api.Span{{Stripe: 0, Cell: 1, From: 1, To: 4}})
	checkSpans(t, exampleP(), 32, 16, []api.Span{{Stripe: 0, Cell: 2, From: 0, To: 16}})
	checkSpans(t, exampleP(), 79, 18, []api.Span{{Stripe: 1, Cell: 0, From: 15, To: 16}, {Stripe: 1, Cell: 1, From: 0, To: 16}, {Stripe: 1, Cell: 2, From: 0, To: 1}})
	checkSpans(t, exampleP(), 5759, 1, []api.Span{{Stripe: 89, Cell: 3, From: 15, To: 16}})
	checkSpans(t, exampleP(), 5760, 0, nil)
	checkSpans(t, exampleQ(), 31, 2, []api.Span{{Stripe: 0, Cell: 0, From: 31, To: 32}, {Stripe: 1, Cell: 0, From: 0, To: 1}})
}

func TestP6_3EveryRange(t *testing.T) {
	for _, p := range []api.Params{exampleQ(), {K: 4, R: 2, Cell: 8, Rows: 8}, {K: 3, R: 0, Cell: 11, Rows: 8}} {
		single := bytewise(p)
		for off := range len(single) + 1 {
			for n := range len(single) - off + 1 {
				checkSpans(t, p, off, n, joined(single[off:off+n]))
			}
		}
	}
}

func TestP6_3EveryParams(t *testing.T) {
	every(func(p api.Params) {
		single := bytewise(p)
		for _, off := range places(p) {
			for _, end := range places(p) {
				if end >= off && (end-off < 4*p.K*p.Cell || off == 0) {
					checkSpans(t, p, off, end-off, joined(single[off:end]))
				}
			}
		}
	})
}

func TestP6_3NegativeNumbers(t *testing.T) {
	for _, p := range few() {
		most := wantNumbers(p).most
		for _, wrong := range []int{-1, -2, -most, -1 << 32, math.MinInt + 1, math.MinInt} {
			for _, other := range []int{0, 1, 2, most, most + 1, 1 << 62, math.MaxInt, -1, math.MinInt} {
				refusedSpans(t, p, wrong, other, api.ErrParams)
				refusedSpans(t, p, other, wrong, api.ErrParams)
			}
		}
	}
}

func TestP6_3TooBig(t *testing.T) {
	every(func(p api.Params) {
		most := wantNumbers(p).most
		for _, wrong := range []int{most + 1, most + 2, 2 * most, 1<<16 + 1, 1 << 32, 1 << 62, math.MaxInt - most, math.MaxInt - 1, math.MaxInt} {
			for _, other := range []int{0, 1, 2, most, most + 1, 1 << 62, math.MaxInt} {
				refusedSpans(t, p, wrong, other, api.ErrTooBig)
				refusedSpans(t, p, other, wrong, api.ErrTooBig)
			}
		}
	})
}

func TestP6_3TogetherTooBig(t *testing.T) {
	every(func(p api.Params) {
		most := wantNumbers(p).most
		for _, off := range places(p) {
			if off > 0 {
				refusedSpans(t, p, off, most-off+1, api.ErrTooBig)
				refusedSpans(t, p, off, most, api.ErrTooBig)
			}
		}
	})
}

func TestP6_3WrongParamsFirst(t *testing.T) {
	wrongParams(func(p api.Params) {
		for _, n := range [][2]int{{0, 0}, {0, 1}, {-1, 0}, {0, -1}, {api.MaxObject, 1}, {math.MaxInt, math.MaxInt}, {math.MinInt, math.MaxInt}, {1, math.MaxInt}} {
			refusedSpans(t, p, n[0], n[1], api.ErrParams)
		}
	})
}

// spoil writes into all of a list, its spare room with it.
func spoil(spans []api.Span) {
	spans = spans[:cap(spans)]
	for i := range spans {
		spans[i] = api.Span{Stripe: -7, Cell: -7, From: -7, To: -7}
	}
}

func TestP6_4SpansAreNewMemory(t *testing.T) {
	for _, p := range few() {
		single := bytewise(p)
		for _, end := range places(p) {
			want := joined(single[:end])
			first, _ := Spans(p, 0, end)
			second, _ := Spans(p, 0, end)
			spoil(first)
			if !slices.Equal(second, want) {
				t.Fatalf("two answers of Spans %s share memory", told(p, 0, end))
			}
			checkSpans(t, p, 0, end, want)
			spoil(second)
			checkSpans(t, p, 0, end, want)
		}
	}
}

func TestP6_4LaterCallsChangeNoAnswer(t *testing.T) {
	for _, p := range few() {
		single := bytewise(p)
		first, _ := Spans(p, 1, 3*p.Cell)
		for _, other := range few() {
			Spans(other, 0, must(Most(other)))
			Spans(other, 5, 2*other.Cell)
			Spans(other, -1, 0)
		}
		if want := joined(single[1 : 1+3*p.Cell]); !slices.Equal(first, want) {
			t.Fatalf("an answer of Spans %s is another one after later calls", told(p))
		}
	}
}

// begin is at which byte of its object a span begins.
func begin(p api.Params, s api.Span) int {
	return s.Stripe*must(Width(p)) + s.Cell*p.Cell + s.From
}

// checkGoOn holds spans to what follows for them, whatever they are.
func checkGoOn(t *testing.T, p api.Params, off, n int) {
	t.Helper()
	spans, err := Spans(p, off, n)
	if err != api.OK {
		t.Fatalf("Spans %s is %d", told(p, off, n), err)
	}
	at := off
	cells := map[[2]int]int{}
	for _, s := range spans {
		if begin(p, s) != at || s.From < 0 || s.From >= s.To || s.To > p.Cell || s.Cell < 0 || s.Cell >= p.K {
			t.Fatalf("Spans %s has %v behind the byte %d", told(p, off, n), s, at)
		}
		if cells[[2]int{s.Stripe, s.Cell}]++; cells[[2]int{s.Stripe, s.Cell}] > 1 {
			t.Fatalf("Spans %s has two of the cell %d of the stripe %d", told(p, off, n), s.Cell, s.Stripe)
		}
		at += s.To - s.From
	}
	if at != off+n {
		t.Fatalf("Spans %s ends at %d", told(p, off, n), at)
	}
}

func TestP6_5SpansGoOn(t *testing.T) {
	every(func(p api.Params) {
		most := must(Most(p))
		for _, off := range places(p) {
			for _, n := range []int{0, 1, 2, p.Cell - 1, p.Cell, p.Cell + 1, p.K*p.Cell - 1, p.K * p.Cell, p.K*p.Cell + 1, 3*p.K*p.Cell + 5} {
				checkGoOn(t, p, off, min(n, most-off))
			}
		}
		checkGoOn(t, p, 0, most)
		checkGoOn(t, p, 1, most-1)
		checkGoOn(t, p, most-1, 1)
		checkGoOn(t, p, most, 0)
	})
}

func TestP6_5SpansMeetTheStripesOfTheObject(t *testing.T) {
	every(func(p api.Params) {
		for _, length := range lengths(p) {
			spans, _ := Spans(p, 0, length)
			stripes := 0
			if len(spans) > 0 {
				stripes = spans[len(spans)-1].Stripe + 1
			}
			if stripes != must(Stripes(p, length)) {
				t.Fatalf("all bytes %s are in %d stripes", told(p, length), stripes)
			}
		}
	})
}

func TestP6_5LongerHasNoFewer(t *testing.T) {
	every(func(p api.Params) {
		before := made{}
		all := lengths(p)
		slices.Sort(all)
		for _, length := range all {
			before = checkNoFewer(t, p, length, before)
		}
	})
	for _, p := range few() {
		before := made{}
		for length := range must(Most(p)) + 1 {
			before = checkNoFewer(t, p, length, before)
		}
	}
}

func checkNoFewer(t *testing.T, p api.Params, length int, before made) made {
	t.Helper()
	now := madeOf(p, length)
	if now.stripes < before.stripes || now.leaves < before.leaves || now.rows < before.rows || now.depth < before.depth {
		t.Fatalf("an object %s is made of %v, a shorter one of %v", told(p, length), now, before)
	}
	return now
}

func TestP6_5LongestHasNoMoreLeavesThanDirect(t *testing.T) {
	every(func(p api.Params) {
		if leaves, direct := must(Leaves(p, must(Most(p)))), must(Direct(p)); leaves > direct {
			t.Fatalf("the longest object %s has %d leaves, a descriptor holds %d", told(p), leaves, direct)
		}
	})
}
