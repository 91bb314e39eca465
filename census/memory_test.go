package census

import (
	"bytes"
	"slices"
	"testing"

	"twoslot/api"
)

const spare = 20 // places behind the end of what is roomy

// roomy has spare room, in which bytes stand that nobody may change.
func roomy(b []byte) []byte {
	return append(bytes.Clone(b), filled(spare, 77)...)[:len(b)]
}

// roomyRow is a row all parts of which have spare room.
func roomyRow(r known) []api.Pair {
	var row []api.Pair
	for _, two := range r.row() {
		row = append(row, api.Pair{roomy(two[0]), roomy(two[1])})
	}
	return append(row, api.Pair{filled(spare, 77), filled(spare, 77)})[:len(row)]
}

// untouched tells whether a roomy row is as it was, its spare room with it.
func untouched(row []api.Pair, r known) bool {
	for drive, two := range row {
		for number, b := range two {
			was := r[drive][number].bytes
			if len(b) != len(was) || !bytes.Equal(b[:len(b)+spare], append(bytes.Clone(was), filled(spare, 77)...)) {
				return false
			}
		}
	}
	behind := row[:len(row)+1][len(row)]
	return bytes.Equal(behind[0], filled(spare, 77)) && bytes.Equal(behind[1], filled(spare, 77))
}

// spoil writes into all numbers of a list, its spare room with them, and behind its end.
func spoil(list []int) {
	_ = append(list, 1, 2, 3)
	list = list[:cap(list)]
	for i := range list {
		list[i] = -list[i] - 5
	}
}

// spoilTallies does so with tallies, not with the drives of each.
func spoilTallies(list []api.Tally) {
	_ = append(list, api.Tally{Version: 1, Cells: []int{1}}, api.Tally{Version: 2})
	list = list[:cap(list)]
	for i := range list {
		list[i] = api.Tally{Version: -list[i].Version - 5, Cells: []int{-5}}
	}
}

func spoilRow(row []api.Pair) {
	for drive := range row {
		for number := range 2 {
			b := row[drive][number]
			b = b[:cap(b)]
			for i := range b {
				b[i] ^= 0xff
			}
		}
		row[drive] = api.Pair{filled(3, 3), nil}
	}
}

// answers are all lists that the calls answered.
type answers struct {
	tallies         []api.Tally
	losers, missing []int
}

// answered makes all calls, none of which may be refused.
func answered(t *testing.T, p api.Params, row []api.Pair, version int) answers {
	t.Helper()
	f := ask(t, p, row)
	missing, err := Missing(p, row, version)
	if err != api.OK {
		t.Fatalf("%v: Missing of %d is %d", p, version, err)
	}
	return answers{f.tallies, f.losers, missing}
}

func (a answers) same(b answers) bool {
	return sameTallies(a.tallies, b.tallies) && slices.Equal(a.losers, b.losers) && slices.Equal(a.missing, b.missing)
}

// deep is a copy that shares nothing.
func (a answers) deep() answers {
	b := answers{losers: slices.Clone(a.losers), missing: slices.Clone(a.missing)}
	for _, tally := range a.tallies {
		b.tallies = append(b.tallies, api.Tally{Version: tally.Version, Cells: slices.Clone(tally.Cells)})
	}
	return b
}

// parts are all lists of numbers of the answers.
func (a answers) parts() [][]int {
	all := [][]int{a.losers, a.missing}
	for _, tally := range a.tallies {
		all = append(all, tally.Cells)
	}
	return all
}

// remembering calls visit with rows of which every call answers something, and with a version that some drives hold.
func remembering(visit func(p api.Params, r known, version int)) {
	for _, p := range few() {
		n := p.K + p.R
		visit(p, blank(p).holding(p, 0, 5, upTo(0, n)...).holding(p, 1, 9, upTo(0, n/2)...).holding(p, 1, 7, upTo(n/2, n)...), 9)
		visit(p, blank(p).holding(p, 0, 5, upTo(p.R, n)...).holding(p, 1, 8, n-1), 8)
		every := blank(p)
		for drive := range n {
			every[drive] = [2]content{plain(p, 2, drive, 2*drive+1), plain(p, 2, drive, 2*drive+2)}
		}
		visit(p, every, 1)
	}
	mixedRows(10, func(p api.Params, r known, throw *dice) { visit(p, r, one(throw, versions())) })
}

func TestP14_4OnlyReads(t *testing.T) {
	remembering(func(p api.Params, r known, _ int) {
		row := roomyRow(r)
		for _, by := range []api.Params{p, {}, exampleP()} {
			for _, part := range [][]api.Pair{row, row[1:], nil} {
				Tallies(by, part)
				Winner(by, part)
				Runner(by, part)
				Losers(by, part)
				for _, version := range append(versions(), 0, -1, most+1) {
					Missing(by, part, version)
				}
			}
		}
		if !untouched(row, r) {
			t.Fatalf("%v: a call changes the row%s", p, r.told())
		}
	})
}

func TestP14_4LaterWritesIntoWhatWasHandedIn(t *testing.T) {
	remembering(func(p api.Params, r known, version int) {
		row := roomyRow(r)
		a := answered(t, p, row, version)
		want := a.deep()
		spoilRow(row)
		_, missing := r.wantHolders(version)
		if !a.same(want) || !a.same(answers{r.wantTallies(), r.wantLosers(p), missing}) {
			t.Fatalf("%v: a write into the row%s changes an answer", p, r.told())
		}
	})
}

func TestP14_4WritesIntoAnswers(t *testing.T) {
	remembering(func(p api.Params, r known, version int) {
		row := roomyRow(r)
		kept := answered(t, p, row, version)
		want := kept.deep()
		a := answered(t, p, row, version)
		for _, part := range a.parts() {
			spoil(part)
		}
		spoilTallies(a.tallies)
		if !untouched(row, r) {
			t.Fatalf("%v: a write into an answer changes the row%s", p, r.told())
		}
		if later := answered(t, p, row, version); !kept.same(want) || !later.same(want) {
			t.Fatalf("%v: a write into an answer changes another answer", p)
		}
	})
}

// A write into one list of an answer, and behind its end, changes no other list, neither of that answer nor of another call's.
func TestP14_4PartsOfAnswersApart(t *testing.T) {
	remembering(func(p api.Params, r known, version int) {
		row := roomyRow(r)
		for i := range answered(t, p, row, version).parts() {
			a := answered(t, p, row, version)
			want := a.deep()
			spoil(a.parts()[i])
			spoil(want.parts()[i])
			if !a.same(want) {
				t.Fatalf("%v: a write into the list %d of the answers changes another one", p, i)
			}
		}
		a := answered(t, p, row, version)
		want := a.deep()
		drives := a.parts()
		spoilTallies(a.tallies)
		if !slices.EqualFunc(drives, want.parts(), slices.Equal[[]int]) {
			t.Fatalf("%v: a write into the tallies changes their drives", p)
		}
	})
}

// An append to the drives of one tally stands behind these alone.
func TestP14_4AppendsToTheDrivesOfTallies(t *testing.T) {
	remembering(func(p api.Params, r known, _ int) {
		tallies, _ := Tallies(p, r.row())
		for i := range tallies {
			tallies[i].Cells = append(tallies[i].Cells, 100+i, 200+i)
		}
		for i, want := range r.wantTallies() {
			if cells := append(want.Cells, 100+i, 200+i); !slices.Equal(tallies[i].Cells, cells) {
				t.Fatalf("%v: behind appends the drives of %d are %v, want %v", p, want.Version, tallies[i].Cells, cells)
			}
		}
	})
}

// Rows whose slots stand within one memory, or are the same one, are read likewise.
func TestP14_4RowsWithinOneMemory(t *testing.T) {
	for _, p := range few() {
		r := blank(p).holding(p, 0, 5, upTo(0, p.K+p.R)...).holding(p, 1, 7, upTo(0, p.K+p.R)...)
		var drives []byte
		for _, two := range r.row() {
			drives = slices.Concat(drives, two[0], two[1])
		}
		was, size := bytes.Clone(drives), sizeOf(p)
		row, twice := make([]api.Pair, p.K+p.R), make([]api.Pair, p.K+p.R)
		for drive := range row {
			at := 2 * drive * size
			row[drive] = api.Pair{drives[at : at+size], drives[at+size : at+2*size]}
			twice[drive] = api.Pair{row[drive][0], row[drive][0]}
		}
		a := answered(t, p, row, 6)
		if !a.same(answered(t, p, r.row(), 6)) {
			t.Fatalf("%v: a row within one memory is answered otherwise", p)
		}
		b := answered(t, p, twice, 6)
		if want := []api.Tally{{Version: 5, Cells: upTo(0, p.K+p.R)}}; !sameTallies(b.tallies, want) {
			t.Fatalf("%v: a row whose slots are the same is tallied as %v", p, b.tallies)
		}
		for _, part := range append(a.parts(), b.parts()...) {
			spoil(part)
		}
		if !bytes.Equal(drives, was) {
			t.Fatalf("%v: a call, or a write into an answer, changes the drives", p)
		}
	}
}

// What was asked earlier changes no answer, nor does the order in which a map is gone through.
func TestP14_4NothingIsKept(t *testing.T) {
	remembering(func(p api.Params, r known, version int) {
		want := answered(t, p, r.row(), version)
		for _, other := range rightRows(exampleP()) {
			answered(t, exampleP(), other.row(), version)
			ask(t, p, blank(p).row())
			if !answered(t, p, r.row(), version).same(want) {
				t.Fatalf("%v: what is asked again is answered otherwise", p)
			}
		}
	})
}
