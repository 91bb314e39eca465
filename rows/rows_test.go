package rows

import (
	"math"
	"slices"
	"testing"

	"twoslot/api"
)

func TestP20_1Examples(t *testing.T) {
	for _, x := range []struct {
		used, want []int
		err        api.Errno
	}{
		{[]int{3, 0, 3}, []int{1, 2, 4, 5, 6, 7}, 0},
		{nil, []int{0, 1, 2, 3, 4, 5, 6, 7}, 0},
		{[]int{8}, nil, 200},
	} {
		if l, err := Free(exampleP(), x.used); !alike(l, x.want, err, x.err) {
			t.Fatalf("Free of %v is %v, %d", x.used, l, err)
		}
	}
}

func TestP20_2Examples(t *testing.T) {
	for _, x := range []struct {
		free        []int
		n           int
		taken, rest []int
		err         api.Errno
	}{
		{[]int{1, 2, 5}, 2, []int{1, 2}, []int{5}, 0},
		{[]int{1}, 0, nil, []int{1}, 0},
		{[]int{1}, 2, nil, nil, 4},
		{[]int{1}, -1, nil, nil, 2},
		{[]int{2, 1}, 1, nil, nil, 200},
	} {
		taken, rest, err := Take(exampleP(), x.free, x.n)
		if !alike(taken, x.taken, err, x.err) || !alike(rest, x.rest, err, x.err) {
			t.Fatalf("Take of %d of %v is %v, %v, %d", x.n, x.free, taken, rest, err)
		}
	}
}

func TestP20_3Examples(t *testing.T) {
	for _, x := range []struct {
		free, l, want []int
		err           api.Errno
	}{
		{[]int{1, 5}, []int{2}, []int{1, 2, 5}, 0},
		{nil, nil, nil, 0},
		{[]int{1, 5}, []int{5}, nil, 200},
	} {
		if l, err := Give(exampleP(), x.free, x.l); !alike(l, x.want, err, x.err) {
			t.Fatalf("Give of %v to %v is %v, %d", x.l, x.free, l, err)
		}
	}
}

// Every set of eight rows, rising, falling, and each of them several times.
func TestP20_1EverySetOfEight(t *testing.T) {
	p := exampleP()
	for bits := range 256 {
		used := ofBits(bits)
		for _, l := range [][]int{used, falling(used), slices.Concat(used, used), slices.Concat(falling(used), used, used)} {
			well(t, p, checkFree(t, p, l))
		}
	}
}

// By every number of rows: none used, all used, the first, the last, both, each alone.
func TestP20_1ByEveryParams(t *testing.T) {
	t.Parallel()
	every(func(p api.Params) {
		all := upTo(0, p.Rows)
		if l, err := Free(p, nil); !alike(l, all, err, 0) {
			t.Fatalf("%v: without any used ones the rows %v are free, %d", p, l, err)
		}
		for _, used := range [][]int{all, falling(all)} {
			if l, err := Free(p, used); err != api.OK || len(l) != 0 {
				t.Fatalf("%v: where all are used the rows %v are free, %d", p, l, err)
			}
		}
		for row := range p.Rows {
			if l, err := Free(p, []int{row}); !alike(l, slices.Delete(slices.Clone(all), row, row+1), err, 0) {
				t.Fatalf("%v: where %d is used the rows %v are free, %d", p, row, l, err)
			}
		}
		if l, err := Free(p, []int{p.Rows - 1, 0}); !alike(l, all[1:p.Rows-1], err, 0) {
			t.Fatalf("%v: where the first and the last are used the rows %v are free, %d", p, l, err)
		}
		for _, used := range lists(p) {
			well(t, p, checkFree(t, p, used))
		}
	})
}

// Rows in any order, some of them often.
func TestP20_1MixedRows(t *testing.T) {
	throw := dice(1)
	for _, p := range few() {
		for range 200 {
			used := make([]int, throw.below(2*p.Rows))
			for i := range used {
				used[i] = throw.below(p.Rows)
			}
			well(t, p, checkFree(t, p, used))
		}
	}
}

// One row may be named as often as a list has room, and all rows together likewise.
func TestP20_1RowsNamedOften(t *testing.T) {
	for _, p := range few() {
		for _, row := range []int{0, 5, p.Rows - 1} {
			for _, many := range []int{2, 3, p.Rows, p.Rows + 1, greatest} {
				well(t, p, checkFree(t, p, slices.Repeat([]int{row}, many)))
			}
		}
		often := slices.Repeat(upTo(0, p.Rows), greatest/p.Rows)
		well(t, p, checkFree(t, p, often))
		well(t, p, checkFree(t, p, falling(often)))
	}
}

// numbers are how many rows may be asked for: as many as there are, fewer and more, none, and numbers that are too great or below 0.
func numbers(many int) []int {
	return []int{0, 1, 2, many / 2, many - 2, many - 1, many, many + 1, many + 2, 2*many + 1, 256, 257, greatest, greatest + 1, 1 << 32, 1<<32 + 1, 1 << 62, math.MaxInt - 1, math.MaxInt, -1, -2, -many, -many - 1, -1 << 32, 1 - 1<<32, math.MinInt, math.MinInt + 1, math.MinInt + many}
}

// Of every set of eight rows so many as there are, one more, none, and all between.
func TestP20_2EverySetOfEight(t *testing.T) {
	p := exampleP()
	for bits := range 256 {
		free := ofBits(bits)
		for n := range len(free) + 1 {
			well(t, p, checkTake(t, p, free, n))
		}
		for _, n := range numbers(len(free)) {
			checkTake(t, p, free, n)
		}
	}
}

func TestP20_2ByEveryParams(t *testing.T) {
	t.Parallel()
	every(func(p api.Params) {
		for _, free := range lists(p) {
			for n := range len(free) + 1 {
				if taken, rest, err := Take(p, free, n); !alike(taken, free[:n], err, 0) || !alike(rest, free[n:], err, 0) {
					t.Fatalf("%v: Take of %d of %v is %v, %v, %d", p, n, free, taken, rest, err)
				}
			}
			for _, n := range numbers(len(free)) {
				checkTake(t, p, free, n)
			}
		}
	})
}

// Just as many rows as there are can be taken, one more can't.
func TestP20_2AsManyAsThereAre(t *testing.T) {
	for _, p := range few() {
		for _, free := range lists(p) {
			many := len(free)
			if taken, rest, err := Take(p, free, many); !alike(taken, free, err, 0) || len(rest) != 0 {
				t.Fatalf("%v: Take of all %d rows is %v, %v, %d", p, many, taken, rest, err)
			}
			if taken, rest, err := Take(p, free, 0); !alike(rest, free, err, 0) || len(taken) != 0 {
				t.Fatalf("%v: Take of none of %d rows is %v, %v, %d", p, many, taken, rest, err)
			}
			if taken, rest, err := Take(p, free, many+1); taken != nil || rest != nil || err != api.ErrFull {
				t.Fatalf("%v: Take of one more than %d rows is %v, %v, %d", p, many, taken, rest, err)
			}
		}
	}
}

// Every two sets of eight rows.
func TestP20_3EveryTwoSetsOfEight(t *testing.T) {
	p := exampleP()
	for bits := range 256 {
		for other := range 256 {
			want := api.OK
			if bits&other != 0 {
				want = api.ErrRows
			}
			if err := checkGive(t, p, ofBits(bits), ofBits(other)); err != want {
				t.Fatalf("Give of %v to %v is %d, want %d", ofBits(other), ofBits(bits), err, want)
			}
		}
	}
}

// What is given back stands below, between and above what is free, is all of it, or is none.
func TestP20_3ByEveryParams(t *testing.T) {
	every(func(p api.Params) {
		all := upTo(0, p.Rows)
		for _, at := range []int{0, 1, p.Rows / 2, p.Rows - 1, p.Rows} {
			for _, two := range [][2][]int{{all[:at], all[at:]}, {all[at:], all[:at]}} {
				if l, err := Give(p, two[0], two[1]); !alike(l, all, err, 0) {
					t.Fatalf("%v: Give of %v to %v is %v, %d", p, two[1], two[0], l, err)
				}
			}
		}
		for _, row := range []int{0, 1, p.Rows / 2, p.Rows - 1} {
			others := slices.Delete(slices.Clone(all), row, row+1)
			for _, two := range [][2][]int{{others, {row}}, {{row}, others}} {
				if l, err := Give(p, two[0], two[1]); !alike(l, all, err, 0) {
					t.Fatalf("%v: Give of %v to %v is %v, %d", p, two[1], two[0], l, err)
				}
			}
		}
		for _, free := range lists(p) {
			rest, _ := wantFree(p, free)
			well(t, p, checkGive(t, p, free, rest))
			well(t, p, checkGive(t, p, free, nil))
			well(t, p, checkGive(t, p, []int{}, free))
		}
	})
}

// Rows by chance are free, given back, both, or neither.
func TestP20_3MixedRows(t *testing.T) {
	throw := dice(3)
	for _, p := range few() {
		for range 200 {
			var free, l []int
			both := throw.below(3 * p.Rows) // in a third of them one row is in both
			for row := range p.Rows {
				side := throw.below(3)
				if side == 0 || row == both {
					free = append(free, row)
				}
				if side == 1 || row == both {
					l = append(l, row)
				}
			}
			if err := checkGive(t, p, free, l); (err == api.OK) != (both >= p.Rows) {
				t.Fatalf("%v: Give of %v to %v is %d", p, l, free, err)
			}
		}
	}
}
