package recover

import (
	"bytes"
	"slices"
	"testing"

	"twoslot/api"
	"twoslot/census"
	"twoslot/image"
	"twoslot/live"
	"twoslot/object"
	"twoslot/stripe"
)

// seen is an object that is shown: the name, its row, and its bytes, or the error with which they are read.
type seen struct {
	name string
	row  int
	data string
	err  api.Errno
}

// shown is all that an image shows: the objects of the directory, bucket by bucket.
func shown(t *testing.T, m api.Image) []seen {
	t.Helper()
	var all []seen
	for bucket := range buckets {
		l, err := live.Entries(m, bucket)
		if err != api.OK {
			t.Fatalf("%v: the bucket %d is refused: %d", m.P, bucket, err)
		}
		all = append(all, seen{row: bucket})
		for _, x := range l {
			data, err := object.Bytes(m, x.Row)
			all = append(all, seen{x.Name, x.Row, string(data), err})
		}
	}
	return all
}

// there are the cells of all that is live, and of the runners beside it.
func there(m api.Image) map[api.Live][]int {
	all := map[api.Live][]int{}
	lives, _ := live.Stripes(m)
	for _, its := range lives {
		pairs, _ := image.Row(m, its.Row)
		all[its], _ = stripe.Present(m.P, pairs, its.Kind, its.Version)
		if runner, is, _ := census.Runner(m.P, pairs); is && its.Kind == 2 {
			all[api.Live{Row: its.Row, Kind: 2, Version: runner}], _ = stripe.Present(m.P, pairs, 2, runner)
		}
	}
	return all
}

// keeps tells that all cells that were there still are.
func keeps(t *testing.T, m api.Image, was map[api.Live][]int, what ...any) {
	t.Helper()
	for its, cells := range was {
		pairs, _ := image.Row(m, its.Row)
		now, _ := stripe.Present(m.P, pairs, its.Kind, its.Version)
		if slices.ContainsFunc(cells, func(cell int) bool { return !slices.Contains(now, cell) }) {
			t.Fatalf("%v: %v: of %v the cells %v were there, now %v", m.P, what, its, cells, now)
		}
	}
}

// wiped is an image without some drives.
func wiped(m api.Image, drives ...int) api.Image {
	now := api.Image{P: m.P, Slots: slices.Clone(m.Slots)}
	for _, drive := range drives {
		clear(now.Slots[2*drive*m.P.Rows : 2*(drive+1)*m.P.Rows])
	}
	return now
}

// behind is an image behind raw writes.
func behind(m api.Image, l ...api.Put) api.Image {
	now := api.Image{P: m.P, Slots: slices.Clone(m.Slots)}
	for _, x := range l {
		now.Slots[(x.Drive*m.P.Rows+x.Row)*2+x.Slot] = x.Bytes
	}
	return now
}

func sameImage(a, b api.Image) bool {
	return a.P == b.P && slices.EqualFunc(a.Slots, b.Slots, bytes.Equal)
}

// opens cuts the opening of an image off ahead of each of its raw writes, with another opening behind it; while they are made all that is shown stays, and all cells that are needed. It tells the image behind all of them.
func opens(t *testing.T, m api.Image, every int, what ...any) api.Image {
	t.Helper()
	puts, err := Plan(m)
	if err != api.OK {
		t.Fatalf("%v: %v: Plan is refused: %d", m.P, what, err)
	}
	want, cells := shown(t, m), there(m)
	lives, _ := live.Stripes(m)
	end := behind(m, puts...)
	for made := range len(puts) + 1 {
		if made%every != 0 && made < len(puts) {
			continue
		}
		now := behind(m, puts[:made]...)
		if all := shown(t, now); !slices.Equal(all, want) {
			t.Fatalf("%v: %v: behind %d of %d raw writes it shows\n%v, want\n%v", m.P, what, made, len(puts), all, want)
		}
		if all, _ := live.Stripes(now); !slices.Equal(all, lives) {
			t.Fatalf("%v: %v: behind %d of %d raw writes %v is live, want %v", m.P, what, made, len(puts), all, lives)
		}
		keeps(t, now, cells, what, "behind", made)
		left, err := Plan(now)
		if err != api.OK || !samePuts(left, puts[made:]) {
			t.Fatalf("%v: %v: behind %d of %d raw writes Plan is %s, %d, want %s", m.P, what, made, len(puts), places(left), err, places(puts[made:]))
		}
		if !sameImage(behind(now, left...), end) {
			t.Fatalf("%v: %v: an opening behind %d of %d raw writes comes to another image", m.P, what, made, len(puts))
		}
	}
	answersWith(t, end, nil, api.OK, "behind all raw writes", what)
	return end
}

// holdsAll tells that all drives hold all winners, and that the same versions count, whichever R drives are wiped.
func holdsAll(t *testing.T, m, was api.Image, every int, what ...any) {
	t.Helper()
	rows, _ := live.Descs(was)
	slices.Sort(rows)
	rows = slices.Compact(rows)
	winners := map[int]int{}
	for _, row := range rows {
		pairs, _ := image.Row(was, row)
		winners[row], _, _ = census.Winner(m.P, pairs)
		pairs, _ = image.Row(m, row)
		if missing, err := census.Missing(m.P, pairs, winners[row]); len(missing) > 0 || err != api.OK {
			t.Fatalf("%v: %v: the drives %v do not hold %d in the row %d, %d", m.P, what, missing, winners[row], row, err)
		}
	}
	asked := 0
	choices(m.P.K+m.P.R, m.P.R, func(drives []int) {
		if asked++; asked%every != 0 && asked > 1 {
			return
		}
		now := wiped(m, drives...)
		for _, row := range rows {
			pairs, _ := image.Row(now, row)
			if winner, is, _ := census.Winner(m.P, pairs); !is || winner != winners[row] {
				t.Fatalf("%v: %v: with %v wiped %d counts in the row %d, %v, want %d", m.P, what, drives, winner, row, is, winners[row])
			}
		}
	})
}

// of how many choices one is taken: the choices of 4 of 16 are many.
func sparse(p api.Params, every int) int {
	if p.K+p.R > 12 {
		return 10 * every
	}
	return every
}

// Images as a crash may leave them: the opening cut off at each place, with an opening behind it; and behind all of it whichever R drives are wiped.
func TestP24_4Stores(t *testing.T) {
	t.Parallel()
	puts := 0
	for _, p := range few() {
		p.Rows = min(p.Rows, 40)
		for seed := range 8 {
			its := standing(p, seed)
			m := its.image()
			end := opens(t, m, sparse(p, 1), "seed", seed)
			holdsAll(t, end, m, sparse(p, 3), "seed", seed)
			l, _ := Plan(m)
			puts += len(l)
		}
	}
	if puts < 300 {
		t.Fatalf("there are only %d raw writes", puts)
	}
}

func TestP24_4EveryParams(t *testing.T) {
	t.Parallel()
	every(func(p api.Params) {
		if p.Cell%5 > 0 {
			return // the others are the same, but slow
		}
		p.Rows = min(p.Rows, 16)
		m := standing(p, p.K*p.Cell+p.R).image()
		holdsAll(t, opens(t, m, 5), m, 40)
	})
}

// Objects whose bytes are lost stay lost, those that can be read stay so; drives that were wiped get all descriptors.
func TestP24_4LostObjects(t *testing.T) {
	t.Parallel()
	lost, read := 0, 0
	for _, p := range few() {
		p.Rows = min(p.Rows, 64)
		its := directory(p, 3)
		for i, row := range its.descs() {
			its.known = its.half(row)
			if i > 4 && i%3 == 0 {
				lives := its.lives[row]
				its.known = its.lost(lives[len(lives)-1].Row)
			}
		}
		m := its.image()
		for _, x := range shown(t, m) {
			if x.err == api.ErrLost {
				lost++
			} else if x.data != "" {
				read++
			}
		}
		holdsAll(t, opens(t, m, sparse(p, 1)), m, sparse(p, 1))
	}
	if lost < 12 || read < 40 {
		t.Fatalf("%d objects are lost, %d are read", lost, read)
	}
}

// Drives are wiped while the opening is cut off, again and again: what fits to at most R drives in all is shown on, and finished in the end.
func TestP24_4WipedMeanwhile(t *testing.T) {
	t.Parallel()
	for _, p := range few() {
		if p.R == 0 {
			continue
		}
		p.Rows = min(p.Rows, 40)
		n := p.K + p.R
		for first := range n {
			if n > 6 && first%4 > 0 {
				continue // the others are the same, but slow
			}
			its := whole(p, first+1) // all drives hold all winners: so it is behind an opening
			m := its.image()
			want := shown(t, m)
			var drives []int
			for i := range p.R {
				drives = append(drives, (first+i)%n)
			}
			for turn := range 4 {
				now := wiped(m, drives[:1+turn%p.R]...)
				puts, _ := Plan(now)
				now = behind(now, puts[:len(puts)*turn/4]...)
				now = wiped(now, drives[turn%p.R])
				if all := shown(t, now); !slices.Equal(all, want) {
					t.Fatalf("%v: with %v wiped again it shows %v, want %v", p, drives, all, want)
				}
				end := opens(t, now, sparse(p, 4), "wiped", drives)
				holdsAll(t, end, m, sparse(p, 10), "wiped", drives)
				m = end
				if all := shown(t, wiped(m, drives...)); !slices.Equal(all, want) {
					t.Fatalf("%v: with %v wiped at last it shows %v, want %v", p, drives, all, want)
				}
			}
		}
	}
}

// Slots of the version that counts stand in another slot than those of the other drives, drive by drive.
func TestP24_4EitherSlot(t *testing.T) {
	t.Parallel()
	for _, p := range few() {
		p.Rows = min(p.Rows, 20)
		for seed := range 4 {
			its := whole(p, seed)
			for _, row := range its.descs() {
				turn := its.throw.below(2)
				its.known = its.changed(row, func(r line) {
					for drive := range r {
						number := its.winning(row, drive)
						if (drive+turn)%2 == 0 {
							r[drive][0], r[drive][1] = r[drive][1], r[drive][0]
							number = 1 - number
						}
						r[drive][1-number] = beside(p, drive, elder)
						if drive < p.R && turn == 0 {
							r[drive][number] = beside(p, drive, elder-1)
						}
					}
				})
			}
			m := its.image()
			holdsAll(t, opens(t, m, sparse(p, 1)), m, sparse(p, 3))
		}
	}
}
