package vector

import (
	"math"
	"slices"
	"strconv"
	"testing"

	"twoslot/api"
)

// most is the document's greatest version, not api's name of it.
const most = 1073741824

func exampleP() api.Params { return api.Params{K: 2, R: 1, Cell: 16, Rows: 8} }

// few are parameters with the fewest drives, with the most, and with some between.
func few() []api.Params {
	return []api.Params{
		exampleP(),
		{K: 1, R: 0, Cell: 32, Rows: 8},
		{K: 12, R: 4, Cell: 64, Rows: 256},
		{K: 1, R: 4, Cell: 64, Rows: 9},
		{K: 12, R: 0, Cell: 8, Rows: 8},
		{K: 4, R: 2, Cell: 16, Rows: 32},
	}
}

// every calls visit with every K and R that may be.
func every(visit func(p api.Params)) {
	for k := 1; k <= 12; k++ {
		for r := range 5 {
			visit(api.Params{K: k, R: r, Cell: 64 - k, Rows: 8 + r})
		}
	}
}

// wrongParams has wrong numbers at every place.
func wrongParams(visit func(p api.Params)) {
	for _, p := range few() {
		for _, wrong := range []int{-1, math.MinInt, math.MaxInt, 257, 1 << 32, -1 << 32} {
			for _, place := range []*int{&p.K, &p.R, &p.Cell, &p.Rows} {
				right := *place
				*place = wrong
				visit(p)
				*place = right
			}
		}
	}
	for _, p := range []api.Params{{}, {K: 0, R: 3, Cell: 16, Rows: 8}, {K: 13, R: 0, Cell: 16, Rows: 8}, {K: 2, R: 5, Cell: 16, Rows: 8}, {K: 2, R: 1, Cell: 15, Rows: 8}, {K: 12, R: 1, Cell: 7, Rows: 8}, {K: 2, R: 1, Cell: 65, Rows: 8}, {K: 2, R: 1, Cell: 16, Rows: 7}} {
		visit(p)
	}
}

// noVersions are numbers that can't be a version.
func noVersions() []int {
	return []int{0, -1, -2, -most, math.MinInt, math.MinInt + 1, most + 1, most + 2, 2 * most, 1<<32 + 1, 1 << 62, math.MaxInt - 1, math.MaxInt}
}

// noCells are numbers that can't be a cell's.
func noCells(n int) []int {
	return []int{-1, -2, -n, math.MinInt, math.MinInt + 1, n, n + 1, 2 * n, 16, 1 << 32, 1 << 62, math.MaxInt - 1, math.MaxInt}
}

// some makes many numbers from 1 to limit.
func some(many, limit, seed int) []int {
	made := make([]int, many)
	state := uint64(seed)*2862933555777941757 + 3037000493
	for i := range made {
		state = state*6364136223846793005 + 1442695040888963407
		made[i] = 1 + int(state>>33)%limit
	}
	return made
}

// filled is a list of one number.
func filled(many, number int) []int {
	made := make([]int, many)
	for i := range made {
		made[i] = number
	}
	return made
}

// with is a list with another number at a place.
func with(list []int, place, number int) []int {
	changed := append([]int{}, list...)
	changed[place] = number
	return changed
}

// vectors are some that may be, at their edges and between.
func vectors(p api.Params) [][]int {
	n := p.K + p.R
	all := [][]int{filled(n, 1), filled(n, 2), filled(n, most), filled(n, most-1)}
	rising, falling := filled(n, 1), filled(n, most)
	for i := range n {
		rising[i] += i
		falling[i] -= i
	}
	all = append(all, rising, falling)
	for _, place := range []int{0, n / 2, n - 1} {
		all = append(all, with(all[0], place, most), with(all[0], place, 2), with(all[2], place, 1), with(all[2], place, most-1), with(rising, place, 7))
	}
	for seed := range 6 {
		all = append(all, some(n, 3, seed), some(n, most, seed))
	}
	return all
}

// wrongVectors are too short, too long, or have a number that can't be a version at some place.
func wrongVectors(p api.Params) [][]int {
	n := p.K + p.R
	all := [][]int{nil, {}, filled(n-1, 1), filled(n+1, 1), filled(2*n, 1), filled(n-1, most), filled(n+1, most), filled(17, 1), filled(300, 5)}
	for _, number := range noVersions() {
		all = append(all, with(filled(n, 1), 0, number), with(some(n, most, number), n-1, number), with(filled(n, most), n/2, number), filled(n, number), filled(n+1, number), filled(n-1, number))
	}
	return all
}

// lists are some lists of cells that may be: none, one, all, some twice, rising and not.
func lists(p api.Params) [][]int {
	n := p.K + p.R
	up, down := make([]int, n), make([]int, n)
	for i := range n {
		up[i], down[n-1-i] = i, i
	}
	all := [][]int{nil, {}, {0}, {n - 1}, {n / 2}, up, down, filled(n, 0), filled(n, n-1)}
	if n > 1 {
		all = append(all, []int{n - 1, 0}, []int{0, n - 1}, []int{n / 2, n / 2})
	}
	for seed := range 6 {
		cells := some(1+seed%n, n, seed)
		for i := range cells {
			cells[i]--
		}
		all = append(all, cells)
	}
	return all
}

// small are all vectors of n versions from 1 to limit.
func small(n, limit int) [][]int {
	all := [][]int{{}}
	for range n {
		var longer [][]int
		for _, v := range all {
			for version := 1; version <= limit; version++ {
				longer = append(longer, append(append([]int{}, v...), version))
			}
		}
		all = longer
	}
	return all
}

// ofDrives are parameters with so many drives, at most 5.
func ofDrives(n int) api.Params {
	return api.Params{K: 1, R: n - 1, Cell: 32, Rows: 8}
}

func told(p api.Params, more ...[]int) string {
	text := "of " + numbers([]int{p.K, p.R, p.Cell, p.Rows})
	for _, list := range more {
		text += ", " + numbers(list)
	}
	return text
}

func numbers(list []int) string {
	text := ""
	for _, n := range list {
		text += strconv.Itoa(n) + " "
	}
	return "(" + text + ")"
}

// must is a call's answer, for what is made of several calls.
func must[T any](answer T, err api.Errno) T {
	if err != api.OK {
		panic(err)
	}
	return answer
}

func wantMay(p api.Params, v []int) bool {
	for _, version := range v {
		if version <= 0 || version > most {
			return false
		}
	}
	return len(v) == p.K+p.R
}

func wantLast(v []int) int {
	sorted := append([]int{}, v...)
	slices.Sort(sorted)
	return sorted[len(sorted)-1]
}

func wantBump(v, cells []int, version int) []int {
	var bumped []int
	for cell, old := range v {
		if slices.Contains(cells, cell) {
			bumped = append(bumped, version)
		} else {
			bumped = append(bumped, old)
		}
	}
	return bumped
}

func wantJoin(a, b []int) []int {
	var joined []int
	for i := range a {
		if a[i] < b[i] {
			joined = append(joined, b[i])
		} else {
			joined = append(joined, a[i])
		}
	}
	return joined
}

func wantBelow(a, b []int) bool {
	return slices.Equal(wantJoin(a, b), b)
}

func wantUnlike(a, b []int) []int {
	var cells []int
	for i := range a {
		if a[i] != b[i] {
			cells = append(cells, i)
		}
	}
	return cells
}

func checkCheck(t *testing.T, p api.Params, v []int, want api.Errno) {
	t.Helper()
	if err := Check(p, v); err != want {
		t.Fatalf("Check %s is %d, want %d", told(p, v), err, want)
	}
}

func checkAll(t *testing.T, p api.Params, version int, want []int, wantErr api.Errno) {
	t.Helper()
	got, err := All(p, version)
	checkList(t, got, err, want, wantErr, "All", p, []int{version})
}

func checkLast(t *testing.T, p api.Params, v []int, want int, wantErr api.Errno) {
	t.Helper()
	if got, err := Last(p, v); err != wantErr || got != want {
		t.Fatalf("Last %s is %d, %d, want %d, %d", told(p, v), got, err, want, wantErr)
	}
}

func checkBump(t *testing.T, p api.Params, v, cells []int, version int, want []int, wantErr api.Errno) {
	t.Helper()
	got, err := Bump(p, v, cells, version)
	checkList(t, got, err, want, wantErr, "Bump", p, v, cells, []int{version})
}

func checkJoin(t *testing.T, p api.Params, a, b, want []int, wantErr api.Errno) {
	t.Helper()
	got, err := Join(p, a, b)
	checkList(t, got, err, want, wantErr, "Join", p, a, b)
}

func checkBelow(t *testing.T, p api.Params, a, b []int, want bool, wantErr api.Errno) {
	t.Helper()
	if got, err := Below(p, a, b); err != wantErr || got != want {
		t.Fatalf("Below %s is %t, %d, want %t, %d", told(p, a, b), got, err, want, wantErr)
	}
}

func checkUnlike(t *testing.T, p api.Params, a, b, want []int, wantErr api.Errno) {
	t.Helper()
	got, err := Unlike(p, a, b)
	checkList(t, got, err, want, wantErr, "Unlike", p, a, b)
}

// checkList holds a list to what is wanted; beside an error there is none at all.
func checkList(t *testing.T, got []int, err api.Errno, want []int, wantErr api.Errno, name string, p api.Params, of ...[]int) {
	t.Helper()
	if err != wantErr || !slices.Equal(got, want) || err != api.OK && got != nil {
		t.Fatalf("%s %s is %s, %d, want %s, %d", name, told(p, of...), numbers(got), err, numbers(want), wantErr)
	}
}

// checkTwo holds all calls of two vectors to what is wanted of them.
func checkTwo(t *testing.T, p api.Params, a, b []int) {
	t.Helper()
	checkJoin(t, p, a, b, wantJoin(a, b), api.OK)
	checkBelow(t, p, a, b, wantBelow(a, b), api.OK)
	checkUnlike(t, p, a, b, wantUnlike(a, b), api.OK)
}

func refusedTwo(t *testing.T, p api.Params, a, b []int, want api.Errno) {
	t.Helper()
	checkJoin(t, p, a, b, nil, want)
	checkBelow(t, p, a, b, false, want)
	checkUnlike(t, p, a, b, nil, want)
}

func TestP7_1Examples(t *testing.T) {
	p := exampleP()
	checkCheck(t, p, []int{1, 2, 3}, api.OK)
	checkCheck(t, p, []int{1, 2}, api.ErrVector)
	checkCheck(t, p, []int{1, 0, 1}, api.ErrVector)
	checkCheck(t, p, []int{1, 1, 1<<30 + 1}, api.ErrVector)
	checkAll(t, p, 7, []int{7, 7, 7}, api.OK)
	checkAll(t, p, 0, nil, api.ErrVector)
	checkLast(t, p, []int{1, 5, 3}, 5, api.OK)
}

func TestP7_1CheckOfEveryLength(t *testing.T) {
	every(func(p api.Params) {
		for many := range 40 {
			want := api.ErrVector
			if many == p.K+p.R {
				want = api.OK
			}
			checkCheck(t, p, filled(many, 1), want)
			checkCheck(t, p, filled(many, most), want)
			checkCheck(t, p, some(many, most, many), want)
		}
	})
}

func TestP7_1CheckOfEveryPlace(t *testing.T) {
	every(func(p api.Params) {
		for place := range p.K + p.R {
			for _, version := range []int{1, 2, 255, 256, 65536, most - 1, most} {
				checkCheck(t, p, with(some(p.K+p.R, most, place), place, version), api.OK)
			}
			for _, number := range noVersions() {
				checkCheck(t, p, with(some(p.K+p.R, most, place), place, number), api.ErrVector)
			}
		}
	})
}

func TestP7_1CheckAgrees(t *testing.T) {
	every(func(p api.Params) {
		for _, v := range slices.Concat(vectors(p), wrongVectors(p)) {
			want := api.ErrVector
			if wantMay(p, v) {
				want = api.OK
			}
			checkCheck(t, p, v, want)
		}
	})
}

func TestP7_1AllOfEveryParams(t *testing.T) {
	every(func(p api.Params) {
		for _, version := range []int{1, 2, 3, 255, 256, 65535, 65536, most - 1, most} {
			checkAll(t, p, version, filled(p.K+p.R, version), api.OK)
		}
		for _, number := range noVersions() {
			checkAll(t, p, number, nil, api.ErrVector)
		}
	})
}

func TestP7_1LastOfEveryPlace(t *testing.T) {
	every(func(p api.Params) {
		for _, v := range vectors(p) {
			checkLast(t, p, v, wantLast(v), api.OK)
		}
		for place := range p.K + p.R {
			checkLast(t, p, with(filled(p.K+p.R, 1), place, 2), 2, api.OK)
			checkLast(t, p, with(some(p.K+p.R, 1000, place), place, most), most, api.OK)
		}
	})
}

func TestP7_1LastOfWrongVectors(t *testing.T) {
	every(func(p api.Params) {
		for _, v := range wrongVectors(p) {
			checkLast(t, p, v, 0, api.ErrVector)
		}
	})
}

func TestP7_1WrongParamsFirst(t *testing.T) {
	wrongParams(func(p api.Params) {
		for _, v := range [][]int{nil, {}, {1}, {0}, {1, 1, 1}, {1, 2, 3, 4, 5, 6}, filled(16, 1), filled(16, -1), filled(17, math.MaxInt)} {
			checkCheck(t, p, v, api.ErrParams)
			checkLast(t, p, v, 0, api.ErrParams)
		}
		for _, version := range []int{1, most, 0, -1, most + 1, math.MaxInt, math.MinInt} {
			checkAll(t, p, version, nil, api.ErrParams)
		}
	})
}

func TestP7_2Examples(t *testing.T) {
	p, v := exampleP(), []int{1, 1, 1}
	checkBump(t, p, v, []int{0, 2}, 4, []int{4, 1, 4}, api.OK)
	checkBump(t, p, v, nil, 4, []int{1, 1, 1}, api.OK)
	checkBump(t, p, v, []int{3}, 4, nil, api.ErrParams)
	checkBump(t, p, v, []int{0, 0, 0, 0}, 4, nil, api.ErrSize)
}

func TestP7_2Edges(t *testing.T) {
	p, v := exampleP(), []int{5, 6, 7}
	checkBump(t, p, v, []int{}, 4, []int{5, 6, 7}, api.OK)
	checkBump(t, p, v, []int{1}, 1, []int{5, 1, 7}, api.OK)
	checkBump(t, p, v, []int{1, 1}, most, []int{5, most, 7}, api.OK)
	checkBump(t, p, v, []int{2, 0, 2}, 9, []int{9, 6, 9}, api.OK)
	checkBump(t, p, v, []int{2, 1, 0}, 6, []int{6, 6, 6}, api.OK)
	checkBump(t, api.Params{K: 1, Cell: 32, Rows: 8}, []int{1}, []int{0}, most, []int{most}, api.OK)
}

func TestP7_2EveryCells(t *testing.T) {
	every(func(p api.Params) {
		for _, v := range vectors(p) {
			for _, cells := range lists(p) {
				for _, version := range []int{1, 2, 3, most - 1, most} {
					checkBump(t, p, v, cells, version, wantBump(v, cells, version), api.OK)
				}
			}
		}
	})
}

func TestP7_2EverySetOfCells(t *testing.T) {
	for _, p := range []api.Params{exampleP(), {K: 4, R: 2, Cell: 8, Rows: 8}, {K: 7, R: 3, Cell: 8, Rows: 8}} {
		v := some(p.K+p.R, most, 3)
		for set := range 1 << (p.K + p.R) {
			var cells []int
			for cell := range p.K + p.R {
				if set>>cell&1 == 1 {
					cells = append(cells, cell)
				}
			}
			checkBump(t, p, v, cells, 77, wantBump(v, cells, 77), api.OK)
			slices.Reverse(cells)
			checkBump(t, p, v, cells, 77, wantBump(v, cells, 77), api.OK)
		}
	}
}

func TestP7_2WrongVectors(t *testing.T) {
	every(func(p api.Params) {
		n := p.K + p.R
		for _, v := range wrongVectors(p) {
			checkBump(t, p, v, []int{0}, 4, nil, api.ErrVector)
			checkBump(t, p, v, filled(n+1, 0), 4, nil, api.ErrVector)
			checkBump(t, p, v, []int{n}, 4, nil, api.ErrVector)
			checkBump(t, p, v, filled(n+1, -1), 0, nil, api.ErrVector)
			checkBump(t, p, v, nil, 0, nil, api.ErrVector)
		}
	})
}

func TestP7_2TooManyCells(t *testing.T) {
	every(func(p api.Params) {
		n := p.K + p.R
		for _, many := range []int{n + 1, n + 2, 2*n + 1, 17, 1000} {
			for _, cell := range []int{0, n - 1, n, -1, math.MaxInt, math.MinInt} {
				checkBump(t, p, some(n, 9, many), filled(many, cell), 4, nil, api.ErrSize)
				checkBump(t, p, some(n, 9, many), filled(many, cell), 0, nil, api.ErrSize)
				checkBump(t, p, some(n, 9, many), filled(many, cell), most+1, nil, api.ErrSize)
			}
		}
	})
}

func TestP7_2WrongCells(t *testing.T) {
	every(func(p api.Params) {
		n := p.K + p.R
		v := some(n, 9, n)
		for _, number := range noCells(n) {
			for _, version := range []int{4, 0, -1, most + 1, math.MaxInt, math.MinInt} {
				checkBump(t, p, v, []int{number}, version, nil, api.ErrParams)
				checkBump(t, p, v, filled(n, number), version, nil, api.ErrParams)
				for place := range n {
					checkBump(t, p, v, with(filled(n, n-1), place, number), version, nil, api.ErrParams)
				}
			}
		}
	})
}

func TestP7_2WrongVersions(t *testing.T) {
	every(func(p api.Params) {
		for _, v := range [][]int{filled(p.K+p.R, 1), some(p.K+p.R, most, 2)} {
			for _, cells := range lists(p) {
				for _, number := range noVersions() {
					checkBump(t, p, v, cells, number, nil, api.ErrVector)
				}
			}
		}
	})
}

func TestP7_2WrongParamsFirst(t *testing.T) {
	wrongParams(func(p api.Params) {
		for _, v := range [][]int{nil, {1}, {1, 1, 1}, filled(16, 1), filled(17, -1)} {
			for _, cells := range [][]int{nil, {0}, {-1}, filled(40, 0), filled(40, -1)} {
				for _, version := range []int{4, 0, most + 1} {
					checkBump(t, p, v, cells, version, nil, api.ErrParams)
				}
			}
		}
	})
}

func TestP7_3Examples(t *testing.T) {
	p := exampleP()
	checkJoin(t, p, []int{1, 5, 3}, []int{2, 4, 3}, []int{2, 5, 3}, api.OK)
	checkUnlike(t, p, []int{1, 5, 3}, []int{2, 4, 3}, []int{0, 1}, api.OK)
	checkBelow(t, p, []int{1, 4, 3}, []int{2, 4, 3}, true, api.OK)
	checkBelow(t, p, []int{1, 5, 3}, []int{2, 4, 3}, false, api.OK)
}

func TestP7_3Edges(t *testing.T) {
	p := exampleP()
	same := []int{4, 5, 6}
	checkJoin(t, p, same, same, same, api.OK)
	checkBelow(t, p, same, same, true, api.OK)
	checkUnlike(t, p, same, same, nil, api.OK)
	checkUnlike(t, p, same, []int{3, 5, 6}, []int{0}, api.OK)
	checkUnlike(t, p, same, []int{4, 5, 7}, []int{2}, api.OK)
	checkUnlike(t, p, same, []int{5, 6, 4}, []int{0, 1, 2}, api.OK)
	checkBelow(t, p, same, []int{3, 5, 6}, false, api.OK)
	checkBelow(t, p, same, []int{4, 5, 5}, false, api.OK)
	checkBelow(t, p, []int{1, 2, 1}, []int{2, 1, 1}, false, api.OK)
	checkBelow(t, p, []int{2, 1, 1}, []int{1, 2, 1}, false, api.OK)
	checkBelow(t, p, []int{1, 1, 1}, []int{most, most, most}, true, api.OK)
	checkJoin(t, p, []int{1, most, 1}, []int{most, 1, 1}, []int{most, most, 1}, api.OK)
}

func TestP7_3EveryTwo(t *testing.T) {
	for n := 1; n <= 4; n++ {
		all := small(n, 3)
		for _, a := range all {
			for _, b := range all {
				checkTwo(t, ofDrives(n), a, b)
			}
		}
	}
}

func TestP7_3EveryParams(t *testing.T) {
	every(func(p api.Params) {
		for _, a := range vectors(p) {
			for _, b := range vectors(p) {
				checkTwo(t, p, a, b)
			}
			for place := range p.K + p.R {
				for _, version := range []int{1, 2, most - 1, most} {
					checkTwo(t, p, a, with(a, place, version))
					checkTwo(t, p, with(a, place, version), a)
				}
			}
		}
	})
}

func TestP7_3WrongVectors(t *testing.T) {
	every(func(p api.Params) {
		right := some(p.K+p.R, most, 5)
		for _, wrong := range wrongVectors(p) {
			refusedTwo(t, p, wrong, right, api.ErrVector)
			refusedTwo(t, p, right, wrong, api.ErrVector)
			refusedTwo(t, p, wrong, wrong, api.ErrVector)
			refusedTwo(t, p, wrong, nil, api.ErrVector)
		}
	})
}

func TestP7_3WrongParamsFirst(t *testing.T) {
	wrongParams(func(p api.Params) {
		for _, a := range [][]int{nil, {1}, {1, 1, 1}, {0, 1, 1}, filled(16, 1), filled(17, -1)} {
			for _, b := range [][]int{nil, {1}, {1, 1, 1}, {0, 1, 1}, filled(16, 1), filled(17, -1)} {
				refusedTwo(t, p, a, b, api.ErrParams)
			}
		}
	})
}

// roomy is a list with spare room, in which a number stands that nobody may change.
func roomy(list []int) []int {
	made := append(append([]int{}, list...), filled(20, -77)...)
	return made[:len(list)]
}

// untouched tells whether a roomy list is as it was, its spare room with it.
func untouched(list, was []int) bool {
	whole := list[:len(list)+20]
	return slices.Equal(whole, append(append([]int{}, was...), filled(20, -77)...))
}

// spoil writes into all of a list, its spare room with it.
func spoil(list []int) {
	list = list[:cap(list)]
	for i := range list {
		list[i] = -7
	}
}

// listCall is a call that answers a list, made of up to two lists.
type listCall func(p api.Params, a, b []int) ([]int, api.Errno)

// listCalls are all calls that answer lists, of two vectors each.
func listCalls() map[string]listCall {
	return map[string]listCall{
		"All":    func(p api.Params, a, b []int) ([]int, api.Errno) { return All(p, 5) },
		"Join":   Join,
		"Unlike": Unlike,
		"Bump":   func(p api.Params, a, b []int) ([]int, api.Errno) { return Bump(p, a, nil, 5) },
	}
}

func TestP7_4WhatIsHandedInIsOnlyRead(t *testing.T) {
	for _, p := range few() {
		for i, of := range slices.Concat(vectors(p), wrongVectors(p)) {
			a, b := roomy(of), roomy(some(p.K+p.R, 3, i))
			Check(p, a)
			Last(p, a)
			Join(p, a, b)
			Join(p, b, a)
			Below(p, a, b)
			Below(p, b, a)
			Unlike(p, a, b)
			Unlike(p, b, a)
			if !untouched(a, of) || !untouched(b, some(p.K+p.R, 3, i)) {
				t.Fatalf("a call %s writes into what is handed in", told(p, of))
			}
		}
	}
}

func TestP7_4BumpOnlyReads(t *testing.T) {
	for _, p := range few() {
		n := p.K + p.R
		wrong := [][]int{{n}, {-1}, filled(n+1, 0)}
		for _, of := range slices.Concat(vectors(p), wrongVectors(p)) {
			for _, which := range slices.Concat(lists(p), wrong) {
				for _, version := range []int{9, most, 0} {
					v, cells := roomy(of), roomy(which)
					Bump(p, v, cells, version)
					if !untouched(v, of) || !untouched(cells, which) {
						t.Fatalf("Bump %s writes into what is handed in", told(p, of, which))
					}
				}
			}
		}
	}
}

func TestP7_4AnswersAreNewMemory(t *testing.T) {
	for _, p := range few() {
		for i, of := range vectors(p) {
			other := some(p.K+p.R, most, i)
			for name, call := range listCalls() {
				a, b := roomy(of), roomy(other)
				want := append([]int{}, must(call(p, of, other))...)
				first, second := must(call(p, a, b)), must(call(p, a, b))
				spoil(first)
				if !untouched(a, of) || !untouched(b, other) || !slices.Equal(second, want) || !slices.Equal(must(call(p, a, b)), want) {
					t.Fatalf("an answer of %s %s shares memory", name, told(p, of, other))
				}
				spoil(a)
				spoil(b)
				if !slices.Equal(second, want) {
					t.Fatalf("an answer of %s %s changes with what was handed in", name, told(p, of, other))
				}
			}
		}
	}
}

func TestP7_4BumpIsNewMemory(t *testing.T) {
	for _, p := range few() {
		for _, of := range vectors(p) {
			for _, which := range lists(p) {
				v, cells := roomy(of), roomy(which)
				want := wantBump(of, which, 9)
				first, second := must(Bump(p, v, cells, 9)), must(Bump(p, v, cells, 9))
				spoil(first)
				if !untouched(v, of) || !untouched(cells, which) || !slices.Equal(second, want) {
					t.Fatalf("an answer of Bump %s shares memory", told(p, of, which))
				}
				spoil(v)
				spoil(cells)
				if !slices.Equal(second, want) {
					t.Fatalf("an answer of Bump %s changes with what was handed in", told(p, of, which))
				}
			}
		}
	}
}

func TestP7_4OneListTwice(t *testing.T) {
	for _, p := range few() {
		for _, of := range vectors(p) {
			v := roomy(of)
			checkTwo(t, p, v, v)
			spoil(must(Join(p, v, v)))
			if !untouched(v, of) {
				t.Fatalf("Join %s of a vector and itself shares its memory", told(p, of))
			}
		}
	}
	cells := []int{1, 2, 1}
	checkBump(t, exampleP(), cells, cells, 9, []int{1, 9, 9}, api.OK)
}

func TestP7_4LaterCallsChangeNoAnswer(t *testing.T) {
	for _, p := range few() {
		a, b := some(p.K+p.R, 3, 1), some(p.K+p.R, 3, 2)
		for name, call := range listCalls() {
			first := must(call(p, a, b))
			want := append([]int{}, first...)
			for _, other := range few() {
				for _, later := range listCalls() {
					later(other, some(other.K+other.R, most, 3), filled(other.K+other.R, 8))
					later(other, nil, nil)
				}
			}
			if !slices.Equal(first, want) {
				t.Fatalf("an answer of %s %s is another one after later calls", name, told(p, a, b))
			}
		}
	}
}

// checkLawsOfTwo holds two vectors to what follows of two.
func checkLawsOfTwo(t *testing.T, p api.Params, a, b []int) {
	t.Helper()
	joined := must(Join(p, a, b))
	if Check(p, joined) != api.OK || !slices.Equal(joined, must(Join(p, b, a))) || !slices.Equal(must(Join(p, a, a)), a) {
		t.Fatalf("Join %s is no vector, another one the other way round, or changes one that is joined with itself", told(p, a, b))
	}
	if !must(Below(p, a, joined)) || !must(Below(p, b, joined)) || !must(Below(p, a, a)) {
		t.Fatalf("%s are not below what they are joined to, or not below themselves", told(p, a, b))
	}
	if each := must(Below(p, a, b)) && must(Below(p, b, a)); each != slices.Equal(a, b) {
		t.Fatalf("%s are below each other: %t", told(p, a, b), each)
	}
}

// checkLawsOfThree holds three vectors to what follows of three.
func checkLawsOfThree(t *testing.T, p api.Params, a, b, c []int) {
	t.Helper()
	if !slices.Equal(must(Join(p, must(Join(p, a, b)), c)), must(Join(p, a, must(Join(p, b, c))))) {
		t.Fatalf("Join %s hangs on which two are joined first", told(p, a, b, c))
	}
	if must(Below(p, a, b)) && must(Below(p, b, c)) && !must(Below(p, a, c)) {
		t.Fatalf("Below %s does not go by way of the second", told(p, a, b, c))
	}
	if must(Below(p, a, c)) && must(Below(p, b, c)) && !must(Below(p, must(Join(p, a, b)), c)) {
		t.Fatalf("Join %s of the first two is not the least above both", told(p, a, b, c))
	}
}

// checkBumpedTo comes from one vector to another by bumps of the cells that are unlike, and by none fewer.
func checkBumpedTo(t *testing.T, p api.Params, a, b []int) {
	t.Helper()
	cells := must(Unlike(p, a, b))
	if !slices.Equal(cells, must(Unlike(p, b, a))) {
		t.Fatalf("Unlike %s are other ones the other way round", told(p, a, b))
	}
	now := a
	for i, cell := range cells {
		if slices.Equal(now, b) || i > 0 && cell <= cells[i-1] {
			t.Fatalf("Unlike %s has cells that are alike, or that do not rise", told(p, a, b))
		}
		now = must(Bump(p, now, []int{cell}, b[cell]))
	}
	if !slices.Equal(now, b) {
		t.Fatalf("Unlike %s are too few to come from one to the other", told(p, a, b))
	}
}

func TestP7_5LawsOfSmallVectors(t *testing.T) {
	for n := 1; n <= 3; n++ {
		all := small(n, 3)
		for _, a := range all {
			for _, b := range all {
				checkLawsOfTwo(t, ofDrives(n), a, b)
				checkBumpedTo(t, ofDrives(n), a, b)
				for _, c := range all {
					checkLawsOfThree(t, ofDrives(n), a, b, c)
				}
			}
		}
	}
}

func TestP7_5LawsOfEveryParams(t *testing.T) {
	every(func(p api.Params) {
		for _, a := range vectors(p) {
			for i, b := range vectors(p) {
				checkLawsOfTwo(t, p, a, b)
				checkBumpedTo(t, p, a, b)
				checkLawsOfThree(t, p, a, b, some(p.K+p.R, most, i))
				checkLawsOfThree(t, p, a, must(Join(p, a, b)), filled(p.K+p.R, most))
			}
		}
	})
}

// checkBumped holds a bump by a version above all others to what follows for it.
func checkBumped(t *testing.T, p api.Params, v, cells []int, version int) {
	t.Helper()
	bumped := must(Bump(p, v, cells, version))
	if last := must(Last(p, bumped)); len(cells) > 0 && last != version || len(cells) == 0 && last != must(Last(p, v)) {
		t.Fatalf("Bump %s has %d as Last", told(p, v, cells, []int{version}), last)
	}
	if !must(Below(p, v, bumped)) || len(cells) > 0 && must(Below(p, bumped, v)) {
		t.Fatalf("Bump %s is not above the vector", told(p, v, cells, []int{version}))
	}
	changed := append([]int{}, cells...)
	slices.Sort(changed)
	if unlike := must(Unlike(p, v, bumped)); !slices.Equal(unlike, slices.Compact(changed)) {
		t.Fatalf("Bump %s changes the cells %s", told(p, v, cells, []int{version}), numbers(unlike))
	}
}

func TestP7_6BumpAboveLast(t *testing.T) {
	every(func(p api.Params) {
		for _, v := range vectors(p) {
			last := must(Last(p, v))
			for _, version := range []int{last + 1, last + 2, last + 256, most} {
				if version <= last || version > most {
					continue
				}
				for _, cells := range lists(p) {
					checkBumped(t, p, v, cells, version)
				}
			}
		}
	})
}

func TestP7_6BumpAgainAndAgain(t *testing.T) {
	for _, p := range few() {
		v := must(All(p, 1))
		for i, cells := range slices.Repeat(lists(p), 5) {
			checkBumped(t, p, v, cells, i+2)
			v = must(Bump(p, v, cells, i+2))
		}
	}
}
