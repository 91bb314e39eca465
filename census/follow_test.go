package census

import (
	"slices"
	"testing"

	"twoslot/api"
)

// found is what all calls tell of a row.
type found struct {
	tallies        []api.Tally
	winner, runner int
	won, ran       bool
	losers         []int
}

func ask(t *testing.T, p api.Params, row []api.Pair) found {
	t.Helper()
	var f found
	var errs [4]api.Errno
	f.tallies, errs[0] = Tallies(p, row)
	f.winner, f.won, errs[1] = Winner(p, row)
	f.runner, f.ran, errs[2] = Runner(p, row)
	f.losers, errs[3] = Losers(p, row)
	if errs != [4]api.Errno{} {
		t.Fatalf("%v: the calls answer %v", p, errs)
	}
	return f
}

// holders are a version's drives by its tally; none, if it has none.
func (f found) holders(version int) []int {
	for _, tally := range f.tallies {
		if tally.Version == version {
			return tally.Cells
		}
	}
	return nil
}

// fitting tells what follows from the promises, of the answers alone.
func (f found) fitting(t *testing.T, p api.Params) {
	t.Helper()
	n := p.K + p.R
	if f.won && len(f.holders(f.winner)) < p.K || !f.won && (f.winner != 0 || f.ran) {
		t.Fatalf("%v: the winner is %d, %v in %v, the runner %v", p, f.winner, f.won, f.tallies, f.ran)
	}
	if f.ran && (f.runner >= f.winner || len(f.holders(f.runner)) < p.K) || !f.ran && f.runner != 0 {
		t.Fatalf("%v: the runner is %d, %v in %v, the winner %d", p, f.runner, f.ran, f.tallies, f.winner)
	}
	for _, version := range f.losers {
		if many := len(f.holders(version)); many < 1 || many >= p.K || version <= f.winner {
			t.Fatalf("%v: the loser %d is held by %d drives, the winner is %d", p, version, many, f.winner)
		}
	}
	many := 0
	for i, tally := range f.tallies {
		many += len(tally.Cells)
		if i > 0 && tally.Version >= f.tallies[i-1].Version || len(tally.Cells) == 0 {
			t.Fatalf("%v: the tallies are %v", p, f.tallies)
		}
	}
	if many > 2*n {
		t.Fatalf("%v: the tallies %v have %d drives", p, f.tallies, many)
	}
}

// parting tells that a version's tally and what is missing of it are all drives, each once.
func (f found) parting(t *testing.T, p api.Params, row []api.Pair, version int) {
	t.Helper()
	missing, err := Missing(p, row, version)
	all := slices.Concat(missing, f.holders(version))
	slices.Sort(all)
	if err != api.OK || !slices.Equal(all, upTo(0, p.K+p.R)) {
		t.Fatalf("%v: of %d %v are missing, %d, and %v hold it", p, version, missing, err, f.holders(version))
	}
}

func checkFollows(t *testing.T, p api.Params, r known) {
	t.Helper()
	row := r.row()
	f := ask(t, p, row)
	f.fitting(t, p)
	for _, version := range append(r.named(), 1, 4, 5, most) {
		f.parting(t, p, row, version)
	}
}

func TestP14_5EverySmallRow(t *testing.T) {
	smallRows(func(p api.Params, r known) { checkFollows(t, p, r) })
}

func TestP14_5MixedRows(t *testing.T) {
	mixedRows(300, func(p api.Params, r known, _ *dice) { checkFollows(t, p, r) })
}

// All tallies together have as many drives as there are slots, if each holds another version of its drive; one the fewer for each drive that holds one twice.
func TestP14_5AsManyDrivesAsSlots(t *testing.T) {
	for _, p := range few() {
		n := p.K + p.R
		for twice := range n + 1 {
			r := blank(p).holding(p, 0, 5, upTo(0, n)...).holding(p, 1, 7, upTo(twice, n)...).holding(p, 1, 5, upTo(0, twice)...)
			many := 0
			for _, tally := range ask(t, p, r.row()).tallies {
				many += len(tally.Cells)
			}
			if many != 2*n-twice {
				t.Fatalf("%v: with %d drives that hold a version twice the tallies have %d drives", p, twice, many)
			}
		}
	}
}

// fades tells what a wipe may do: what counts behind it counted before, and is not above what counted.
func (f found) fades(t *testing.T, p api.Params, after found, wiped []int) {
	t.Helper()
	if after.won && (!f.won || after.winner > f.winner) {
		t.Fatalf("%v: with %v wiped the winner of %v is %d, and was %d, %v", p, wiped, f.tallies, after.winner, f.winner, f.won)
	}
	for _, tally := range after.tallies {
		if len(tally.Cells) >= p.K && len(f.holders(tally.Version)) < p.K {
			t.Fatalf("%v: with %v wiped %d of %v can be read, and could not before", p, wiped, tally.Version, f.tallies)
		}
	}
	if after.won && after.winner < f.winner && len(after.holders(f.winner)) >= p.K {
		t.Fatalf("%v: with %v wiped the winner %d of %v is held, and %d counts", p, wiped, f.winner, f.tallies, after.winner)
	}
	for _, tally := range f.tallies { // what the others hold is told as before
		left := slices.DeleteFunc(slices.Clone(tally.Cells), func(drive int) bool { return slices.Contains(wiped, drive) })
		if !slices.Equal(after.holders(tally.Version), left) {
			t.Fatalf("%v: with %v wiped %d is held by %v, and was by %v", p, wiped, tally.Version, after.holders(tally.Version), tally.Cells)
		}
	}
}

// Each choice of drives wiped, up to all of them.
func TestP14_6EveryChoiceOfWiped(t *testing.T) {
	lost, below := 0, 0
	mixedRows(40, func(p api.Params, r known, _ *dice) {
		f := ask(t, p, r.row())
		sets(p.K+p.R, func(wiped []int) {
			after := ask(t, p, r.without(wiped...).row())
			f.fades(t, p, after, wiped)
			if f.won && !after.won {
				lost++
			} else if after.winner < f.winner {
				below++
			}
		})
	})
	if lost < 100 || below < 100 {
		t.Fatalf("only %d winners were lost, %d gave way to one below", lost, below)
	}
}

func TestP14_6EverySmallRow(t *testing.T) {
	smallRows(func(p api.Params, r known) {
		if p.K+p.R > 3 {
			return
		}
		f := ask(t, p, r.row())
		sets(p.K+p.R, func(wiped []int) {
			f.fades(t, p, ask(t, p, r.without(wiped...).row()), wiped)
		})
	})
}

// One drive after the other is wiped, in some order: with the last one nothing is left.
func TestP14_6OneByOne(t *testing.T) {
	mixedRows(60, func(p api.Params, r known, throw *dice) {
		left := upTo(0, p.K+p.R)
		f := ask(t, p, r.row())
		for len(left) > 0 {
			at := throw.below(len(left))
			drive := left[at]
			left = slices.Delete(left, at, at+1)
			r = r.without(drive)
			after := ask(t, p, r.row())
			f.fades(t, p, after, []int{drive})
			checkCounting(t, p, r)
			f = after
		}
		verdict{}.judged(t, p, r)
		if len(f.tallies) != 0 {
			t.Fatalf("%v: blank drives hold %v", p, f.tallies)
		}
	})
}

// A winner that all drives hold outlives each choice of R wipes; with one more none counts, and it is a loser while a drive has it.
func TestP14_6WinnersOutliveRWipes(t *testing.T) {
	for _, p := range few() {
		n := p.K + p.R
		r := blank(p).holding(p, 0, 7, upTo(0, n)...)
		sets(n, func(wiped []int) {
			want := verdict{winner: 7}
			if len(wiped) > p.R {
				want = verdict{losers: []int{7}[:min(n-len(wiped), 1)]}
			}
			want.judged(t, p, r.without(wiped...))
		})
	}
}

// What a cut left half done does not come to count by wipes: the winner stays, till too few drives hold it.
func TestP14_6LosersStayLosers(t *testing.T) {
	for _, p := range few() {
		n := p.K + p.R
		for made := range p.K {
			r := blank(p).holding(p, 0, 5, upTo(0, n)...).holding(p, 1, 6, upTo(0, made)...)
			sets(n, func(wiped []int) {
				winner, is, err := Winner(p, r.without(wiped...).row())
				if want := n-len(wiped) >= p.K; err != api.OK || is != want || is && winner != 5 {
					t.Fatalf("%v: with %d cells of 6, and %v wiped, the winner is %d, %v, %d", p, made, wiped, winner, is, err)
				}
			})
		}
	}
}

// Behind wipes the winner may give way to the runner, never to what was not committed.
func TestP14_6RunnersComeBack(t *testing.T) {
	p := api.Params{K: 3, R: 2, Cell: 11, Rows: 8}
	r := rowOf(p, [2]int{5, 9}, [2]int{5, 9}, [2]int{5, 9}, [2]int{5, 0}, [2]int{5, 0})
	verdict{9, 5, nil}.judged(t, p, r)
	for drive := range 3 {
		verdict{5, 0, []int{9}}.judged(t, p, r.without(drive))
	}
	verdict{9, 5, nil}.judged(t, p, r.without(3, 4))
	verdict{5, 0, []int{9}}.judged(t, p, r.without(0, 1))
	verdict{0, 0, []int{9, 5}}.judged(t, p, r.without(0, 1, 3))
	verdict{0, 0, []int{5}}.judged(t, p, r.without(0, 1, 2))
}
