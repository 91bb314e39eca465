package rows

import (
	"math"
	"slices"
	"testing"

	"twoslot/api"
)

// wrongRows are numbers that no row has, some of which are the same as a row's in their last bytes.
func wrongRows(p api.Params) []int {
	all := []int{-1, -2, -p.Rows, -256, p.Rows, p.Rows + 1, 2 * p.Rows, 256, 257, 65535, 65536, 1<<31 - 1, 1 << 31, -1 << 31, 1<<32 - 1, 1 << 32, 1<<32 + 3, 3 - 1<<32, 1 << 62, math.MinInt, math.MinInt + 1, math.MinInt + 3, math.MaxInt - 1, math.MaxInt}
	return slices.DeleteFunc(all, func(row int) bool { return names(upTo(0, p.Rows), row) })
}

// with is a list with another row at a place.
func with(l []int, place, row int) []int {
	made := slices.Clone(l)
	made[place] = row
	return made
}

// notThere are lists that have a row that there is not, alone and among others, at any place.
func notThere(p api.Params) [][]int {
	var all [][]int
	right := []int{0, 2, 3, p.Rows - 1}
	for _, row := range wrongRows(p) {
		all = append(all, []int{row}, []int{row, row}, with(upTo(0, p.Rows), p.Rows-1, row), with(upTo(0, p.Rows), 0, row), append(upTo(0, p.Rows), row))
		for place := range right {
			all = append(all, with(right, place, row))
		}
	}
	return all
}

// notRising are lists that fall at some place, or name a row twice, though there are such rows.
func notRising(p api.Params) [][]int {
	all, last := upTo(0, p.Rows), p.Rows-1
	made := [][]int{{0, 0}, {last, last}, {1, 0}, {last, 0}, {0, 1, 1}, {0, 0, 1}, {0, 2, 1}, {1, 0, 2}, {0, 1, 0}, {1, 2, last, 1}, falling(all), append(slices.Clone(all), last), append(slices.Clone(all), 0), slices.Concat(all, all)}
	for place := 1; place < p.Rows; place++ {
		made = append(made, with(all, place, place-1), with(all, place-1, place))
	}
	return made
}

// tooLong are lists of more rows than a list may have, whatever they are.
func tooLong(p api.Params) [][]int {
	zeros := make([]int, greatest+1)
	return [][]int{zeros, with(zeros, greatest, -1), with(zeros, 0, p.Rows), make([]int, 2*greatest), make([]int, greatest+256), upTo(0, greatest+1)}
}

// asLongAsMayBe are lists of just as many rows as a list may have; none of them rises.
func asLongAsMayBe(p api.Params) [][]int {
	zeros := make([]int, greatest)
	return [][]int{zeros, with(zeros, greatest-1, 1), slices.Concat(upTo(0, p.Rows), slices.Repeat([]int{p.Rows - 1}, greatest-p.Rows))}
}

func refusedFree(t *testing.T, p api.Params, used []int, want api.Errno) {
	t.Helper()
	if l, err := Free(p, used); l != nil || err != want {
		t.Fatalf("%v: Free of the %d rows %v is %v, %d, want none, %d", p, len(used), short(used), l, err, want)
	}
}

func refusedTake(t *testing.T, p api.Params, free []int, n int, want api.Errno) {
	t.Helper()
	if taken, rest, err := Take(p, free, n); taken != nil || rest != nil || err != want {
		t.Fatalf("%v: Take of %d of the %d rows %v is %v, %v, %d, want none, %d", p, n, len(free), short(free), taken, rest, err, want)
	}
}

func refusedGive(t *testing.T, p api.Params, free, l []int, want api.Errno) {
	t.Helper()
	if all, err := Give(p, free, l); all != nil || err != want {
		t.Fatalf("%v: Give of the %d rows %v to the %d rows %v is %v, %d, want none, %d", p, len(l), short(l), len(free), short(free), all, err, want)
	}
}

// Parameters are told ahead of all else, whatever else is wrong.
func TestP20_1WrongParams(t *testing.T) {
	all := [][]int{nil, {}, {0}, {1, 2, 5}, {2, 1}, {-1}, {8}, {math.MaxInt}, make([]int, greatest+1)}
	wrongParams(func(p api.Params) {
		for _, l := range all {
			refusedFree(t, p, l, api.ErrParams)
		}
	})
}

func TestP20_2WrongParams(t *testing.T) {
	all := [][]int{nil, {}, {0}, {1, 2, 5}, {2, 1}, {-1}, {8}, {math.MaxInt}, make([]int, greatest+1)}
	wrongParams(func(p api.Params) {
		for _, l := range all {
			for _, n := range []int{0, 1, -1, 9, math.MinInt, math.MaxInt} {
				refusedTake(t, p, l, n, api.ErrParams)
			}
		}
	})
}

func TestP20_3WrongParams(t *testing.T) {
	all := [][]int{nil, {}, {0}, {1, 2, 5}, {2, 1}, {-1}, {8}, {math.MaxInt}, make([]int, greatest+1)}
	wrongParams(func(p api.Params) {
		for _, free := range all {
			for _, l := range all {
				refusedGive(t, p, free, l, api.ErrParams)
			}
		}
	})
}

// A stripe that is too narrow is told, though each number may be.
func TestP20_1WrongParamsByTheWidth(t *testing.T) {
	for _, p := range []api.Params{{K: 1, R: 2, Cell: 31, Rows: 8}, {K: 3, R: 0, Cell: 10, Rows: 256}} {
		refusedFree(t, p, nil, api.ErrParams)
		refusedTake(t, p, []int{0}, 1, api.ErrParams)
		refusedGive(t, p, []int{0}, []int{1}, api.ErrParams)
	}
}

func TestP20_1WrongRows(t *testing.T) {
	for _, p := range few() {
		for _, l := range notThere(p) {
			refusedFree(t, p, l, api.ErrRows)
			refusedFree(t, p, slices.Concat([]int{0, 0, 1, 0}, l, []int{2, 1}), api.ErrRows)
		}
		for _, l := range notRising(p) {
			well(t, p, checkFree(t, p, l))
		}
	}
}

func TestP20_1WrongLengths(t *testing.T) {
	for _, p := range few() {
		for _, l := range tooLong(p) {
			refusedFree(t, p, l, api.ErrSize)
		}
		for _, l := range asLongAsMayBe(p) {
			well(t, p, checkFree(t, p, l))
			for _, place := range []int{0, 1, greatest / 2, greatest - 1} {
				refusedFree(t, p, with(l, place, p.Rows), api.ErrRows)
				refusedFree(t, p, with(l, place, -1), api.ErrRows)
			}
		}
	}
}

// wrongLists are lists that may not be, each with its error; all of them are right for Free, or wrong too.
func wrongLists(p api.Params) map[api.Errno][][]int {
	return map[api.Errno][][]int{
		api.ErrSize: tooLong(p),
		api.ErrRows: slices.Concat(notThere(p), notRising(p), asLongAsMayBe(p)),
	}
}

// A list that may not be is told ahead of the number, whatever that is.
func TestP20_2WrongLists(t *testing.T) {
	for _, p := range few() {
		for want, all := range wrongLists(p) {
			for _, free := range all {
				for _, n := range []int{0, 1, len(free), len(free) + 1, -1, math.MinInt, math.MaxInt} {
					refusedTake(t, p, free, n, want)
				}
			}
		}
	}
}

func TestP20_2WrongNumbers(t *testing.T) {
	for _, p := range few() {
		for _, free := range lists(p) {
			for _, n := range []int{-1, -2, -len(free) - 1, -256, -1 << 31, -1 << 32, 1 - 1<<32, -1 << 62, math.MinInt, math.MinInt + 1} {
				refusedTake(t, p, free, n, api.ErrParams)
			}
			for _, n := range []int{len(free) + 1, len(free) + 2, len(free) + 256, p.Rows + 1, 1<<31 - 1, 1 << 32, 1<<32 + 1, 1 << 62, math.MaxInt - 1, math.MaxInt} {
				refusedTake(t, p, free, n, api.ErrFull)
			}
		}
	}
}

// What is free is told ahead of what is given back, each its length first.
func TestP20_3WrongLists(t *testing.T) {
	t.Parallel()
	for _, p := range few() {
		for want, all := range wrongLists(p) {
			for _, wrong := range all {
				for _, l := range [][]int{nil, {0}, {p.Rows - 1}, {-1}, {p.Rows}, {2, 1}, wrong, make([]int, greatest), make([]int, greatest+1)} {
					refusedGive(t, p, wrong, l, want)
				}
				for _, free := range [][]int{nil, {}, {0}, {1, 2, p.Rows - 1}, upTo(0, p.Rows)} {
					refusedGive(t, p, free, wrong, want)
				}
			}
		}
	}
}

// A row that is free already can't be given back, whichever it is, and beside which others.
func TestP20_3RowsThatAreFreeAlready(t *testing.T) {
	for _, p := range few() {
		for _, free := range lists(p) {
			others, _ := wantFree(p, free)
			for _, row := range free {
				refusedGive(t, p, free, []int{row}, api.ErrRows)
				refusedGive(t, p, []int{row}, free, api.ErrRows)
				refusedGive(t, p, free, sorted(append(slices.Clone(others), row)), api.ErrRows)
			}
			if len(free) > 0 {
				refusedGive(t, p, free, free, api.ErrRows)
			}
		}
	}
}

// small calls visit with every list of at most so many numbers, from just below the rows of eight to just above.
func small(most int, visit func(l []int)) {
	var longer func(l []int)
	longer = func(l []int) {
		visit(l)
		if len(l) < most {
			for _, row := range []int{-1, 0, 1, 2, 6, 7, 8} {
				longer(append(slices.Clone(l), row))
			}
		}
	}
	longer(nil)
}

func TestP20_1EverySmallList(t *testing.T) {
	small(4, func(l []int) { checkFree(t, exampleP(), l) })
}

func TestP20_2EverySmallList(t *testing.T) {
	small(4, func(l []int) {
		for n := -1; n < 6; n++ {
			checkTake(t, exampleP(), l, n)
		}
	})
}

func TestP20_3EveryTwoSmallLists(t *testing.T) {
	small(3, func(free []int) {
		small(2, func(l []int) {
			checkGive(t, exampleP(), free, l)
			checkGive(t, exampleP(), l, free)
		})
	})
}
