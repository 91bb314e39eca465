package census

import (
	"bytes"
	"math"
	"slices"
	"strconv"
	"testing"

	"twoslot/api"
)

// most is the document's greatest version, not api's name of it.
const most = 1073741824

func exampleP() api.Params { return api.Params{K: 2, R: 1, Cell: 16, Rows: 8} }

// few are parameters with the fewest drives and bytes of a cell, with the most, without parity, with more parity than data, and with some between.
func few() []api.Params {
	return []api.Params{
		exampleP(),
		{K: 1, R: 0, Cell: 32, Rows: 8},
		{K: 1, R: 4, Cell: 64, Rows: 9},
		{K: 4, R: 0, Cell: 8, Rows: 8},
		{K: 12, R: 4, Cell: 64, Rows: 256},
		{K: 12, R: 0, Cell: 8, Rows: 10},
		{K: 3, R: 2, Cell: 11, Rows: 13},
	}
}

// every calls visit with every K, R and Cell that may be.
func every(visit func(p api.Params)) {
	for k := 1; k <= 12; k++ {
		for r := range 5 {
			for cell := 8; cell <= 64; cell++ {
				if k*cell >= 32 {
					visit(api.Params{K: k, R: r, Cell: cell, Rows: 8 + (k*cell+r)%249})
				}
			}
		}
	}
}

// wrongParams has wrong numbers at every place.
func wrongParams(visit func(p api.Params)) {
	for _, p := range few() {
		for _, wrong := range []int{-1, math.MinInt, math.MaxInt, 257, 1 << 32, -1 << 32, 1 << 62} {
			for _, place := range []*int{&p.K, &p.R, &p.Cell, &p.Rows} {
				right := *place
				*place = wrong
				visit(p)
				*place = right + 1<<32
				visit(p)
				*place = right
			}
		}
	}
	for _, p := range []api.Params{{}, {K: 0, R: 3, Cell: 16, Rows: 8}, {K: 13, R: 0, Cell: 16, Rows: 8}, {K: 2, R: 5, Cell: 16, Rows: 8}, {K: 2, R: 1, Cell: 15, Rows: 8}, {K: 12, R: 1, Cell: 7, Rows: 8}, {K: 2, R: 1, Cell: 65, Rows: 8}, {K: 2, R: 1, Cell: 16, Rows: 7}, {K: 2, R: 1, Cell: 16, Rows: 257}} {
		visit(p)
	}
}

func filled(many int, value byte) []byte { return bytes.Repeat([]byte{value}, many) }

// dice makes numbers that are the same in every run.
type dice uint64

func (d *dice) below(many int) int {
	*d = *d*6364136223846793005 + 1442695040888963407
	return int(uint64(*d)>>33) % many
}

// one is some element of a list.
func one[T any](d *dice, of []T) T { return of[d.below(len(of))] }

// some are bytes, by seeds unlike.
func some(many, seed int) []byte {
	throw := dice(seed)
	made := make([]byte, many)
	for i := range made {
		made[i] = byte(throw.below(256))
	}
	return made
}

// upTo are the numbers from one to below another.
func upTo(from, below int) []int {
	var all []int
	for number := from; number < below; number++ {
		all = append(all, number)
	}
	return all
}

// same is a vector of one version.
func same(p api.Params, version int) []int {
	return slices.Repeat([]int{version}, p.K+p.R)
}

// with is a vector with another version of a cell.
func with(v []int, cell, version int) []int {
	changed := slices.Clone(v)
	changed[cell] = version
	return changed
}

// slotOf is the slot of a vector whose Cell and Stripe fit to it.
func slotOf(kind uint8, index int, v []int, data []byte) api.Slot {
	return api.Slot{Kind: kind, Index: index, Cell: v[index], Stripe: slices.Max(v), Vector: v, Data: data}
}

// bytesOf is a slot's bytes, made by dividing.
func bytesOf(s api.Slot) []byte {
	made := []byte{'T', '2', s.Kind, byte(s.Index)}
	for _, number := range append([]int{s.Cell, s.Stripe}, s.Vector...) {
		made = append(made, byte(number/16777216), byte(number/65536%256), byte(number/256%256), byte(number%256))
	}
	return append(made, s.Data...)
}

func sizeOf(p api.Params) int { return 12 + 4*(p.K+p.R) + p.Cell }

// content is what a slot has: bytes, and the slot that they are (kind 0: none), which is known as they were made of it.
type content struct {
	bytes []byte
	slot  api.Slot
}

func contentOf(s api.Slot) content { return content{bytesOf(s), s} }

// plain is a slot that has one version everywhere; 0 is a blank one.
func plain(p api.Params, kind uint8, index, version int) content {
	if version == 0 {
		return content{}
	}
	return contentOf(slotOf(kind, index, same(p, version), some(p.Cell, 100*index+version%97)))
}

// noSlots are contents of a slot's size, or blank, that are no slot, though each is nearly one of KindDesc that has the version 5 everywhere.
func noSlots(p api.Params, drive int) []content {
	right := bytesOf(slotOf(2, drive, same(p, 5), some(p.Cell, 5)))
	all := []content{{}, {bytes: []byte{}}, {bytes: make([]byte, len(right))}, {bytes: filled(len(right), 255)}}
	spoil := func(place int, value byte) {
		b := bytes.Clone(right)
		b[place] = value
		all = append(all, content{bytes: b})
	}
	for place := range 12 + 4*(p.K+p.R) {
		spoil(place, right[place]+128) // the mark, the kind, the index, a version that is too great or not that of the cell
	}
	for _, kind := range []byte{0, 3, 255} {
		spoil(2, kind)
	}
	spoil(3, byte(p.K+p.R))
	return all
}

// known is a row of contents.
type known [][2]content

func blank(p api.Params) known { return make(known, p.K+p.R) }

// rowOf is the row whose drives hold these versions of a descriptor, by their slots; 0 is a blank slot.
func rowOf(p api.Params, versions ...[2]int) known {
	r := blank(p)
	for drive, two := range versions {
		for number, version := range two {
			r[drive][number] = plain(p, 2, drive, version)
		}
	}
	return r
}

// row is what is handed in of it.
func (r known) row() []api.Pair {
	var row []api.Pair
	for _, two := range r {
		row = append(row, api.Pair{two[0].bytes, two[1].bytes})
	}
	return row
}

// holding is the row in which some drives hold a version of a descriptor in the slots of one number.
func (r known) holding(p api.Params, number, version int, drives ...int) known {
	changed := slices.Clone(r)
	for _, drive := range drives {
		changed[drive][number] = plain(p, 2, drive, version)
	}
	return changed
}

// without is the row with some drives wiped.
func (r known) without(drives ...int) known {
	changed := slices.Clone(r)
	for _, drive := range drives {
		changed[drive] = [2]content{}
	}
	return changed
}

// holds tells whether a drive holds a version, by the document's sentence.
func (r known) holds(drive, version int) bool {
	for _, c := range r[drive] {
		s := c.slot
		if s.Kind == 2 && s.Index == drive && s.Cell == version && s.Stripe == version && slices.Equal(s.Vector, slices.Repeat([]int{version}, len(r))) {
			return true
		}
	}
	return false
}

// named are all versions that any slot has anywhere, the greatest first: no other one can be held.
func (r known) named() []int {
	var all []int
	for _, two := range r {
		all = slices.Concat(all, two[0].slot.Vector, two[1].slot.Vector)
	}
	slices.Sort(all)
	slices.Reverse(all)
	return slices.Compact(all)
}

// wantHolders are the drives that hold a version, and those that do not.
func (r known) wantHolders(version int) (do, not []int) {
	for drive := range r {
		if r.holds(drive, version) {
			do = append(do, drive)
		} else {
			not = append(not, drive)
		}
	}
	return do, not
}

func (r known) wantTallies() []api.Tally {
	var all []api.Tally
	for _, version := range r.named() {
		if do, _ := r.wantHolders(version); len(do) > 0 {
			all = append(all, api.Tally{Version: version, Cells: do})
		}
	}
	return all
}

// wantWinner is the greatest version below a bound that at least K drives hold; 0: none.
func (r known) wantWinner(p api.Params, below int) int {
	winner := 0
	for _, version := range r.named() {
		if do, _ := r.wantHolders(version); version < below && len(do) >= p.K {
			winner = max(winner, version)
		}
	}
	return winner
}

// wantRunner is the winner of those below the winner.
func (r known) wantRunner(p api.Params) int {
	return r.wantWinner(p, r.wantWinner(p, math.MaxInt))
}

// wantLosers are all that are held above the winner; 0, where there is none, is below all.
func (r known) wantLosers(p api.Params) []int {
	var all []int
	for _, tally := range r.wantTallies() {
		if tally.Version > r.wantWinner(p, math.MaxInt) {
			all = append(all, tally.Version)
		}
	}
	return all
}

func sameTallies(a, b []api.Tally) bool {
	return slices.EqualFunc(a, b, func(x, y api.Tally) bool { return x.Version == y.Version && slices.Equal(x.Cells, y.Cells) })
}

// told tells what of a row counts: the vectors of its slots.
func (r known) told() string {
	text := ""
	for drive, two := range r {
		for number, c := range two {
			if c.slot.Kind == 0 {
				continue
			}
			text += " " + strconv.Itoa(drive) + "." + strconv.Itoa(number) + " kind " + strconv.Itoa(int(c.slot.Kind)) + " of " + strconv.Itoa(c.slot.Index) + " ("
			for _, version := range c.slot.Vector {
				text += " " + strconv.Itoa(version)
			}
			text += " )"
		}
	}
	return text
}

// versions are those that are asked for: held ones, others, and ones that are alike in their last bytes.
func versions() []int {
	return []int{1, 2, 3, 4, 5, 6, 7, 8, 9, 256 + 5, 65536 + 7, 1<<24 + 5, most - 1, most}
}

func checkTallies(t *testing.T, p api.Params, r known) {
	t.Helper()
	want := r.wantTallies()
	if tallies, err := Tallies(p, r.row()); err != api.OK || !sameTallies(tallies, want) {
		t.Fatalf("%v: Tallies in%s are %v, %d, want %v", p, r.told(), tallies, err, want)
	}
}

func checkCounting(t *testing.T, p api.Params, r known) {
	t.Helper()
	want := r.wantWinner(p, math.MaxInt)
	if version, is, err := Winner(p, r.row()); err != api.OK || version != want || is != (want > 0) {
		t.Fatalf("%v: Winner in%s is %d, %v, %d, want %d", p, r.told(), version, is, err, want)
	}
	want = r.wantRunner(p)
	if version, is, err := Runner(p, r.row()); err != api.OK || version != want || is != (want > 0) {
		t.Fatalf("%v: Runner in%s is %d, %v, %d, want %d", p, r.told(), version, is, err, want)
	}
	losers := r.wantLosers(p)
	if versions, err := Losers(p, r.row()); err != api.OK || !slices.Equal(versions, losers) {
		t.Fatalf("%v: Losers in%s are %v, %d, want %v", p, r.told(), versions, err, losers)
	}
}

func checkMissing(t *testing.T, p api.Params, r known, version int) {
	t.Helper()
	_, want := r.wantHolders(version)
	if drives, err := Missing(p, r.row(), version); err != api.OK || !slices.Equal(drives, want) {
		t.Fatalf("%v: Missing of %d in%s are %v, %d, want %v", p, version, r.told(), drives, err, want)
	}
}

// check holds all calls against the document's answers.
func check(t *testing.T, p api.Params, r known) {
	t.Helper()
	checkTallies(t, p, r)
	checkCounting(t, p, r)
	for _, version := range versions() {
		checkMissing(t, p, r, version)
	}
}

// mixed is a row of slots of all sorts: its versions are few, so that some are held by K drives, some by fewer.
func mixed(p api.Params, throw *dice) known {
	r, often, next := blank(p), one(throw, []int{1, 3, 5, 7, most}), one(throw, []int{1, 3, 5, 7, most})
	for drive := range r {
		for number := range 2 {
			r[drive][number] = mixedContent(p, throw, drive)
		}
		if throw.below(5) > 0 {
			r[drive][throw.below(2)] = plain(p, 2, drive, often)
		}
		if throw.below(3) > 0 {
			r[drive][throw.below(2)] = plain(p, 2, drive, next)
		}
	}
	return r
}

// mixedContent is one of them: blank, no slot, of another drive, of the other kind, with several versions, with one.
func mixedContent(p api.Params, throw *dice, drive int) content {
	n, version := p.K+p.R, one(throw, []int{1, 3, 5, 6, 7, 8, 9, most})
	switch throw.below(12) {
	case 0, 1:
		return content{}
	case 2:
		return one(throw, noSlots(p, drive))
	case 3:
		return plain(p, 2, throw.below(n), version)
	case 4, 5:
		return plain(p, 1, drive, version)
	case 6, 7:
		return contentOf(slotOf(2, drive, with(same(p, version), throw.below(n), one(throw, []int{1, 5, 7})), some(p.Cell, 7)))
	}
	return plain(p, 2, drive, version)
}

// mixedRows calls visit with many of them.
func mixedRows(many int, visit func(p api.Params, r known, throw *dice)) {
	for _, p := range few() {
		for seed := range many {
			throw := dice(seed + 1000*p.K + 100*p.R)
			visit(p, mixed(p, &throw), &throw)
		}
	}
}

// smallRows calls visit with every row of some parameters whose slots hold some versions of a descriptor or are blank.
func smallRows(visit func(p api.Params, r known)) {
	for _, x := range []struct {
		p        api.Params
		versions []int
	}{
		{api.Params{K: 1, R: 0, Cell: 32, Rows: 8}, []int{0, 1, 5, most}},
		{api.Params{K: 1, R: 1, Cell: 32, Rows: 8}, []int{0, 1, 5, 6, most}},
		{exampleP(), []int{0, 4, 5, 6}},
		{api.Params{K: 1, R: 2, Cell: 32, Rows: 8}, []int{0, 4, 5, 6}},
		{api.Params{K: 3, R: 0, Cell: 11, Rows: 8}, []int{0, 4, 5, 6}},
		{api.Params{K: 3, R: 1, Cell: 11, Rows: 8}, []int{0, 1, most}},
	} {
		var fill func(drives [][2]int)
		fill = func(drives [][2]int) {
			if len(drives) == x.p.K+x.p.R {
				visit(x.p, rowOf(x.p, drives...))
				return
			}
			for _, first := range x.versions {
				for _, second := range x.versions {
					fill(append(drives, [2]int{first, second}))
				}
			}
		}
		fill(make([][2]int, 0, x.p.K+x.p.R))
	}
}

// choices calls visit with every choice of so many numbers below n.
func choices(n, many int, visit func(chosen []int)) {
	var choose func(chosen []int, from int)
	choose = func(chosen []int, from int) {
		if len(chosen) == many {
			visit(chosen)
			return
		}
		for number := from; number < n; number++ {
			choose(append(chosen, number), number+1)
		}
	}
	choose(make([]int, 0, many), 0)
}

// sets calls visit with every choice of some numbers below n, none and all with them; of the most choices of many drives only with runs of them, around the end.
func sets(n int, visit func(chosen []int)) {
	for many := range n + 1 {
		if n <= 5 || many <= 2 || many >= n-1 {
			choices(n, many, visit)
			continue
		}
		for first := range n {
			var run []int
			for i := range many {
				run = append(run, (first+i)%n)
			}
			visit(run)
		}
	}
}
