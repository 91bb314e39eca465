package census

import (
	"slices"
	"testing"

	"twoslot/api"
)

// verdict is what counts in a row; 0: there is none.
type verdict struct {
	winner, runner int
	losers         []int
}

// judged tells that a row is judged so.
func (v verdict) judged(t *testing.T, p api.Params, r known) {
	t.Helper()
	winner, is, err := Winner(p, r.row())
	runner, has, err2 := Runner(p, r.row())
	losers, err3 := Losers(p, r.row())
	if winner != v.winner || is != (v.winner > 0) || runner != v.runner || has != (v.runner > 0) || !slices.Equal(losers, v.losers) || err != api.OK || err2 != api.OK || err3 != api.OK {
		t.Fatalf("%v: in%s the winner is %d, %v, %d, the runner %d, %v, %d, the losers %v, %d, want %v", p, r.told(), winner, is, err, runner, has, err2, losers, err3, v)
	}
}

func TestP14_2Examples(t *testing.T) {
	p := exampleP()
	verdict{5, 0, []int{6}}.judged(t, p, exampleX())
	verdict{6, 5, nil}.judged(t, p, exampleMore())
	verdict{}.judged(t, p, blank(p))
	data := blank(p)
	for drive := range data {
		data[drive][0] = plain(p, 1, drive, 5)
	}
	verdict{}.judged(t, p, data)
	if version, is, err := Winner(p, exampleX().row()[:2]); version != 0 || is || err != api.ErrRow {
		t.Fatalf("Winner of two pairs is %d, %v, %d", version, is, err)
	}
}

func TestP14_2EverySmallRow(t *testing.T) {
	smallRows(func(p api.Params, r known) { checkCounting(t, p, r) })
}

func TestP14_2MixedRows(t *testing.T) {
	var won, ran, lost, none int
	mixedRows(300, func(p api.Params, r known, _ *dice) {
		checkCounting(t, p, r)
		winner, is, _ := Winner(p, r.row())
		_, has, _ := Runner(p, r.row())
		losers, _ := Losers(p, r.row())
		switch {
		case !is:
			none++
		case winner > 0 && has:
			ran++
		default:
			won++
		}
		lost += len(losers)
	})
	if won < 100 || ran < 100 || none < 100 || lost < 500 {
		t.Fatalf("only %d winners alone, %d with a runner, %d rows without, %d losers", won, ran, none, lost)
	}
}

// By every K, R and Cell: K - 1 drives are too few, K are enough, and so are all; the least version and the greatest.
func TestP14_2ByEveryParams(t *testing.T) {
	every(func(p api.Params) {
		n := p.K + p.R
		for _, version := range []int{1, most} {
			for _, many := range []int{p.K - 1, p.K, n} {
				r := blank(p).holding(p, many%2, version, upTo(0, many)...)
				want := verdict{}
				if many >= p.K {
					want.winner = version
				} else if many > 0 {
					want.losers = []int{version}
				}
				want.judged(t, p, r)
			}
		}
	})
}

// Whichever the drives are that hold a version, parity cells or data cells: only how many they are counts.
func TestP14_2EveryChoiceOfDrives(t *testing.T) {
	for _, p := range few() {
		n := p.K + p.R
		judge := func(chosen []int) {
			want := verdict{winner: 5}
			if len(chosen) < p.K {
				want = verdict{losers: []int{5}[:min(len(chosen), 1)]}
			}
			want.judged(t, p, blank(p).holding(p, 0, 5, chosen...))
		}
		sets(n, judge)
		choices(n, p.K, judge)
		choices(n, p.K-1, judge)
	}
}

// A descriptor is written over an elder one, cell by cell: it counts from the K-th on, and is a loser before.
func TestP14_2WrittenCellByCell(t *testing.T) {
	for _, p := range few() {
		n := p.K + p.R
		for _, x := range [][3]int{{0, 0, 5}, {5, 0, 6}, {5, 0, most}, {1, 1, 2}, {most - 1, 1, most}} {
			old, slot, now := x[0], x[1], x[2]
			r := blank(p).holding(p, slot, old, upTo(0, n)...)
			for made := range n + 1 {
				r = r.holding(p, 1-slot, now, upTo(0, made)...)
				want := verdict{winner: old, losers: []int{now}[:min(made, 1)]}
				if made >= p.K {
					want = verdict{winner: now, runner: old}
				}
				want.judged(t, p, r)
			}
		}
	}
}

// The greater version is the winner, whichever slots it is in, and however many more hold the other one.
func TestP14_2GreaterNotMore(t *testing.T) {
	for _, p := range few() {
		n := p.K + p.R
		for number := range 2 {
			r := blank(p).holding(p, number, 5, upTo(0, n)...).holding(p, 1-number, 7, upTo(p.R, n)...)
			verdict{7, 5, nil}.judged(t, p, r)
			r = blank(p).holding(p, number, 7, upTo(0, n)...).holding(p, 1-number, 5, upTo(p.R, n)...)
			verdict{7, 5, nil}.judged(t, p, r)
			if p.K > 1 { // held by one too few, above and below
				r = blank(p).holding(p, number, 5, upTo(0, n)...).holding(p, 1-number, 7, upTo(p.R+1, n)...)
				verdict{5, 0, []int{7}}.judged(t, p, r)
				r = blank(p).holding(p, number, 7, upTo(0, n)...).holding(p, 1-number, 5, upTo(p.R+1, n)...)
				verdict{7, 0, nil}.judged(t, p, r)
			}
		}
	}
}

// What fewer than K drives hold between the winner and the runner, and below it, is none of these, nor a loser.
func TestP14_2BetweenWinnerAndRunner(t *testing.T) {
	p := api.Params{K: 3, R: 2, Cell: 11, Rows: 8}
	for _, x := range []struct {
		r    known
		want verdict
	}{
		{rowOf(p, [2]int{9, 5}, [2]int{9, 5}, [2]int{9, 5}, [2]int{7, 6}, [2]int{7, 8}), verdict{9, 5, nil}},
		{rowOf(p, [2]int{9, 5}, [2]int{9, 5}, [2]int{5, 9}, [2]int{4, 12}, [2]int{4, 8}), verdict{9, 5, []int{12}}},
		{rowOf(p, [2]int{9, 5}, [2]int{5, 9}, [2]int{9, 5}, [2]int{12, 11}, [2]int{12, 10}), verdict{9, 5, []int{12, 11, 10}}},
		{rowOf(p, [2]int{9, 12}, [2]int{12, 9}, [2]int{9, 5}, [2]int{8, 11}, [2]int{8, 5}), verdict{9, 0, []int{12, 11}}},
		{rowOf(p, [2]int{9, 8}, [2]int{9, 8}, [2]int{7, 6}, [2]int{7, 6}, [2]int{5, 5}), verdict{0, 0, []int{9, 8, 7, 6, 5}}},
		{rowOf(p, [2]int{9, 9}, [2]int{9, 9}, [2]int{8, 8}, [2]int{8, 8}, [2]int{7, 8}), verdict{8, 0, []int{9}}},
		{rowOf(p, [2]int{1, most}, [2]int{most, 1}, [2]int{1, most}, [2]int{2, most - 1}, [2]int{}), verdict{most, 1, nil}},
		{rowOf(p, [2]int{1, most}, [2]int{most, 1}, [2]int{1, most - 1}, [2]int{2, most - 1}, [2]int{}), verdict{1, 0, []int{most, most - 1, 2}}},
	} {
		x.want.judged(t, p, x.r)
		checkCounting(t, p, x.r)
	}
}

// With one data cell each version that a drive holds can be read: the two greatest count, and there are no losers.
func TestP14_2OneDataCell(t *testing.T) {
	p := api.Params{K: 1, R: 3, Cell: 32, Rows: 8}
	verdict{9, 8, nil}.judged(t, p, rowOf(p, [2]int{3, 9}, [2]int{8, 4}, [2]int{5, 6}, [2]int{7, 1}))
	verdict{9, 1, nil}.judged(t, p, rowOf(p, [2]int{1, 9}))
	verdict{9, 0, nil}.judged(t, p, rowOf(p, [2]int{9, 9}, [2]int{0, 9}))
	verdict{1, 0, nil}.judged(t, p, rowOf(p, [2]int{}, [2]int{}, [2]int{}, [2]int{0, 1}))
}

// A version that drives hold twice counts by drives, not by slots.
func TestP14_2BothSlotsAreOneDrive(t *testing.T) {
	for _, p := range few() {
		n := p.K + p.R
		for many := 1; many <= n; many++ {
			r := blank(p).holding(p, 0, 5, upTo(0, many)...).holding(p, 1, 5, upTo(0, many)...)
			want := verdict{winner: 5}
			if many < p.K {
				want = verdict{losers: []int{5}}
			}
			want.judged(t, p, r)
		}
	}
}

// What does not hold the version does not help it over K: the other kind, another drive, another vector, no slot.
func TestP14_2OthersDoNotCount(t *testing.T) {
	for _, p := range few() {
		n, last := p.K+p.R, p.K-1
		if n == 1 {
			continue
		}
		short := blank(p).holding(p, 0, 5, upTo(0, last)...)
		want := verdict{losers: []int{5}[:min(last, 1)]}
		want.judged(t, p, short)
		for _, c := range append(noSlots(p, last),
			plain(p, 1, last, 5),
			plain(p, 2, (last+1)%n, 5),
			contentOf(slotOf(2, last, with(same(p, 5), (last+1)%n, 4), some(p.Cell, 1))),
			contentOf(slotOf(2, last, with(same(p, 5), (last+1)%n, 6), some(p.Cell, 1))),
			contentOf(slotOf(2, last, with(same(p, 5), last, 4), some(p.Cell, 1)))) {
			for number := range 2 {
				r := slices.Clone(short)
				r[last][number] = c
				want.judged(t, p, r)
				verdict{winner: 5}.judged(t, p, r.holding(p, 1-number, 5, last))
			}
		}
	}
}
