package rows

import (
	"math"
	"slices"
	"testing"

	"twoslot/api"
)

// greatest is the document's greatest length of a list, not api's name of it.
const greatest = 65536

func exampleP() api.Params { return api.Params{K: 2, R: 1, Cell: 16, Rows: 8} }

// few are parameters with the fewest rows and drives, with the most, and with some between.
func few() []api.Params {
	return []api.Params{
		exampleP(),
		{K: 1, R: 0, Cell: 32, Rows: 8},
		{K: 1, R: 0, Cell: 64, Rows: 256},
		{K: 12, R: 4, Cell: 8, Rows: 8},
		{K: 12, R: 4, Cell: 64, Rows: 256},
		{K: 1, R: 4, Cell: 64, Rows: 255},
		{K: 12, R: 0, Cell: 8, Rows: 9},
		{K: 4, R: 2, Cell: 16, Rows: 32},
		{K: 3, R: 2, Cell: 11, Rows: 13},
	}
}

// every calls visit with every number of rows, and with every K and R.
func every(visit func(p api.Params)) {
	for rows := 8; rows <= 256; rows++ {
		visit(api.Params{K: 1 + rows%12, R: rows % 5, Cell: 32 + rows%33, Rows: rows})
	}
	for k := 1; k <= 12; k++ {
		for r := range 5 {
			visit(api.Params{K: k, R: r, Cell: 64 - k, Rows: 8 + 7*k + r})
		}
	}
}

// wrongParams has wrong numbers at every place.
func wrongParams(visit func(p api.Params)) {
	for _, p := range few() {
		for _, wrong := range []int{-1, math.MinInt, math.MaxInt, 257, 1 << 32, -1 << 32, 1 << 62} {
			for _, place := range []*int{&p.K, &p.R, &p.Cell, &p.Rows} {
				right := *place
				*place = wrong
				visit(p)
				*place = right + 1<<32
				visit(p)
				*place = right
			}
		}
	}
	for _, p := range []api.Params{{}, {K: 0, R: 3, Cell: 16, Rows: 8}, {K: 13, R: 0, Cell: 16, Rows: 8}, {K: 2, R: 5, Cell: 16, Rows: 8}, {K: 2, R: 1, Cell: 15, Rows: 8}, {K: 12, R: 1, Cell: 7, Rows: 8}, {K: 2, R: 1, Cell: 65, Rows: 8}, {K: 2, R: 1, Cell: 16, Rows: 7}, {K: 2, R: 1, Cell: 16, Rows: 257}} {
		visit(p)
	}
}

// dice makes numbers that are the same in every run.
type dice uint64

func (d *dice) below(many int) int {
	*d = *d*6364136223846793005 + 1442695040888963407
	return int(uint64(*d)>>33) % many
}

// upTo are the numbers from one to below another.
func upTo(from, below int) []int {
	var all []int
	for number := from; number < below; number++ {
		all = append(all, number)
	}
	return all
}

// ofBits are the numbers of the bits that are 1, rising.
func ofBits(bits int) []int {
	var all []int
	for number := 0; bits>>number > 0; number++ {
		if bits>>number&1 == 1 {
			all = append(all, number)
		}
	}
	return all
}

// falling is a list from its end on.
func falling(l []int) []int {
	made := slices.Clone(l)
	slices.Reverse(made)
	return made
}

// chance are some rows of all, rising: of so many about one in several.
func chance(p api.Params, throw *dice, several int) []int {
	var l []int
	for row := range p.Rows {
		if throw.below(several) == 0 {
			l = append(l, row)
		}
	}
	return l
}

// lists are such as may be: none, one row, all rows, all but one, every second one, some.
func lists(p api.Params) [][]int {
	all := upTo(0, p.Rows)
	made := [][]int{nil, {}, {0}, {p.Rows - 1}, {p.Rows / 2}, {0, p.Rows - 1}, all, all[1:], all[:p.Rows-1], slices.Concat(all[:3], all[4:])}
	made = append(made, slices.DeleteFunc(slices.Clone(all), func(row int) bool { return row%2 == 0 }))
	throw := dice(p.Rows)
	for _, several := range []int{2, 3, 7} {
		made = append(made, chance(p, &throw, several))
	}
	return made
}

// names tells whether a row is in a list.
func names(l []int, row int) bool {
	for _, other := range l {
		if other == row {
			return true
		}
	}
	return false
}

// wantThere is what the document says of a list in any order.
func wantThere(p api.Params, l []int) api.Errno {
	if len(l) > greatest {
		return 20
	}
	all := upTo(0, p.Rows)
	for _, row := range l {
		if !names(all, row) {
			return 200
		}
	}
	return 0
}

// wantMay is what the document says of a list that is to rise: each row is above all that are ahead of it.
func wantMay(p api.Params, l []int) api.Errno {
	if err := wantThere(p, l); err != 0 {
		return err
	}
	for place := range l {
		for _, ahead := range l[:place] {
			if l[place] <= ahead {
				return 200
			}
		}
	}
	return 0
}

// wantFree goes through all rows.
func wantFree(p api.Params, used []int) ([]int, api.Errno) {
	if err := wantThere(p, used); err != 0 {
		return nil, err
	}
	var free []int
	for row := range p.Rows {
		if !names(used, row) {
			free = append(free, row)
		}
	}
	return free, 0
}

// wantTake counts down.
func wantTake(p api.Params, free []int, n int) (taken, rest []int, e api.Errno) {
	if err := wantMay(p, free); err != 0 {
		return nil, nil, err
	}
	if n < 0 {
		return nil, nil, 2
	}
	for _, row := range free {
		if n > 0 {
			taken = append(taken, row)
			n--
		} else {
			rest = append(rest, row)
		}
	}
	if n > 0 {
		return nil, nil, 4
	}
	return taken, rest, 0
}

// wantGive goes through all rows, and looks into both lists.
func wantGive(p api.Params, free, l []int) ([]int, api.Errno) {
	for _, list := range [][]int{free, l} {
		if err := wantMay(p, list); err != 0 {
			return nil, err
		}
	}
	var all []int
	for row := range p.Rows {
		switch {
		case names(free, row) && names(l, row):
			return nil, 200
		case names(free, row) || names(l, row):
			all = append(all, row)
		}
	}
	return all, 0
}

// short is a list for a message.
func short(l []int) []int { return l[:min(len(l), 300)] }

// alike tells whether an answer is what it must be, and nil beside an error.
func alike(l, want []int, err, wants api.Errno) bool {
	return slices.Equal(l, want) && err == wants && (err == 0 || l == nil)
}

func checkFree(t *testing.T, p api.Params, used []int) api.Errno {
	t.Helper()
	l, err := Free(p, used)
	if want, wants := wantFree(p, used); !alike(l, want, err, wants) {
		t.Fatalf("%v: Free of the %d rows %v is %v, %d, want %v, %d", p, len(used), short(used), l, err, want, wants)
	}
	return err
}

func checkTake(t *testing.T, p api.Params, free []int, n int) api.Errno {
	t.Helper()
	taken, rest, err := Take(p, free, n)
	first, others, wants := wantTake(p, free, n)
	if !alike(taken, first, err, wants) || !alike(rest, others, err, wants) {
		t.Fatalf("%v: Take of %d of the %d rows %v is %v, %v, %d, want %v, %v, %d", p, n, len(free), short(free), taken, rest, err, first, others, wants)
	}
	return err
}

func checkGive(t *testing.T, p api.Params, free, l []int) api.Errno {
	t.Helper()
	all, err := Give(p, free, l)
	if want, wants := wantGive(p, free, l); !alike(all, want, err, wants) {
		t.Fatalf("%v: Give of the %d rows %v to the %d rows %v is %v, %d, want %v, %d", p, len(l), short(l), len(free), short(free), all, err, want, wants)
	}
	return err
}

// well tells that a call was not refused.
func well(t *testing.T, p api.Params, err api.Errno) {
	t.Helper()
	if err != api.OK {
		t.Fatalf("%v: a right call is refused by %d", p, err)
	}
}
