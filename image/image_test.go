package image

import (
	"bytes"
	"math"
	"slices"
	"testing"

	"twoslot/api"
)

// exampleM is the chapter's M.
func exampleM(t *testing.T) api.Image {
	t.Helper()
	m, err := Blank(exampleP())
	if err != api.OK {
		t.Fatalf("Blank is %d", err)
	}
	return m
}

// exampleX is the chapter's X, exampleY its Y.
func exampleX() api.Put { return place{1, 2, 0}.put(filled(40, 1)) }
func exampleY() api.Put { return place{1, 2, 0}.put(filled(40, 2)) }

// must is an image that is answered.
func must(t *testing.T) func(m api.Image, err api.Errno) api.Image {
	return func(m api.Image, err api.Errno) api.Image {
		t.Helper()
		if err != api.OK {
			t.Fatalf("it is %d", err)
		}
		return m
	}
}

func TestP9_1Examples(t *testing.T) {
	m := exampleM(t)
	if err := Check(m); err != api.OK {
		t.Errorf("Check(M) is %d", err)
	}
	if err := Check(api.Image{}); err != api.ErrParams {
		t.Errorf("Check of no image is %d", err)
	}
	m.Slots = m.Slots[:47]
	if err := Check(m); err != api.ErrImage {
		t.Errorf("Check(M without its last slot) is %d", err)
	}
}

func TestP9_1Blank(t *testing.T) {
	for k := 1; k <= 12; k++ {
		for r := range 5 {
			p := api.Params{K: k, R: r, Cell: 64 - k, Rows: 8 + k + r}
			m, err := Blank(p)
			check(t, m, err, mirror{p: p})
		}
	}
	for _, p := range append(few(), greatest()) {
		m, err := Blank(p)
		check(t, m, err, mirror{p: p})
		if err := Check(m); err != api.OK {
			t.Fatalf("Check of Blank(%v) is %d", p, err)
		}
	}
}

func TestP9_1Check(t *testing.T) {
	for _, p := range append(few(), greatest()) {
		for i, m := range patterns(p) {
			if err := Check(m); err != api.OK {
				t.Fatalf("%v: Check of the pattern %d is %d", p, i, err)
			}
		}
		m := full(p)
		for i := range m.Slots { // any bytes may be
			m.Slots[i] = filled(size(p), byte(i))
		}
		if err := Check(m); err != api.OK {
			t.Fatalf("%v: Check of any bytes is %d", p, err)
		}
	}
}

func TestP9_1WrongParams(t *testing.T) {
	wrongParams(func(p api.Params) {
		m, err := Blank(p)
		refused(t, m, err, api.ErrParams)
		for _, slots := range [][][]byte{nil, {}, make([][]byte, 48), {{1}}, {nil, {1, 2}, filled(40, 1)}} {
			if err := Check(api.Image{P: p, Slots: slots}); err != api.ErrParams {
				t.Fatalf("Check of %v is %d, want ErrParams", p, err)
			}
		}
	})
}

func TestP9_1WrongImages(t *testing.T) {
	for _, p := range append(few(), greatest()) {
		for i, m := range wrongImages(p) {
			if err := Check(m); err != api.ErrImage {
				t.Fatalf("%v: Check of the wrong image %d is %d, want ErrImage", p, i, err)
			}
		}
	}
	for _, p := range few() {
		m := mixed(p)
		for i, right := range m.Slots {
			for _, many := range []int{1, size(p) - 1, size(p) + 1} {
				m.Slots[i] = filled(many, 1)
				if err := Check(m); err != api.ErrImage {
					t.Fatalf("%v: Check with %d bytes in the slot %d is %d", p, many, i, err)
				}
			}
			m.Slots[i] = right
		}
	}
}

func TestP9_1Same(t *testing.T) {
	for _, p := range append(few(), greatest()) {
		all, again := patterns(p), patterns(p)
		for i := range all {
			for j := range again {
				if Same(all[i], again[j]) != (i == j) {
					t.Fatalf("%v: Same of the patterns %d and %d is %t", p, i, j, i != j)
				}
			}
		}
	}
}

func TestP9_1SameByEverySlot(t *testing.T) {
	for _, p := range few() {
		for _, m := range patterns(p) {
			other := api.Image{P: p, Slots: slices.Clone(m.Slots)}
			for i, held := range m.Slots {
				unlike := [][]byte{nil, {}, {0}, filled(size(p), 7), append(bytes.Clone(held), 0)}
				if len(held) > 0 {
					first, last := bytes.Clone(held), bytes.Clone(held)
					first[0]++
					last[len(last)-1]++
					unlike = append(unlike, first, last, held[1:], held[:len(held)-1])
				}
				for _, other.Slots[i] = range unlike {
					want := bytes.Equal(held, other.Slots[i])
					if Same(m, other) != want || Same(other, m) != want {
						t.Fatalf("%v: Same with %v and %v in the slot %d is not %t", p, held, other.Slots[i], i, want)
					}
				}
				other.Slots[i] = held
			}
			if !Same(m, other) {
				t.Fatalf("%v: Same of alike ones is false", p)
			}
		}
	}
}

func TestP9_1SameOfAny(t *testing.T) {
	p, q := exampleP(), api.Params{K: -1, R: math.MaxInt, Cell: math.MinInt, Rows: 3}
	var all []api.Image
	for _, p := range []api.Params{{}, p, q, {K: 3, R: 1, Cell: 16, Rows: 8}, {K: 2, R: 2, Cell: 16, Rows: 8}, {K: 2, R: 1, Cell: 17, Rows: 8}, {K: 2, R: 1, Cell: 16, Rows: 9}} {
		all = append(all, api.Image{P: p}, api.Image{P: p, Slots: [][]byte{nil}}, api.Image{P: p, Slots: [][]byte{nil, nil}}, api.Image{P: p, Slots: [][]byte{{1}}}, api.Image{P: p, Slots: [][]byte{{1}, nil}}, api.Image{P: p, Slots: [][]byte{nil, {1}}}, api.Image{P: p, Slots: [][]byte{{2}}}, api.Image{P: p, Slots: [][]byte{{1, 2}}}, api.Image{P: p, Slots: make([][]byte, 48)})
	}
	for i, a := range all {
		for j, b := range all {
			if Same(a, b) != (i == j) {
				t.Fatalf("Same(%v, %v) is %t", a, b, i != j)
			}
		}
	}
	for _, p := range []api.Params{{}, p, q} {
		for _, c := range []struct{ a, b [][]byte }{{nil, [][]byte{}}, {[][]byte{nil}, [][]byte{{}}}, {[][]byte{{}, nil, {1}}, [][]byte{nil, {}, {1}}}} {
			a, b := api.Image{P: p, Slots: c.a}, api.Image{P: p, Slots: c.b}
			if !Same(a, b) || !Same(b, a) {
				t.Fatalf("Same(%v, %v) is false", a, b)
			}
		}
	}
}

func TestP9_2Examples(t *testing.T) {
	m, x, y := exampleM(t), exampleX(), exampleY()
	put := must(t)(Put(m, x))
	if one := must(t)(After(m, []api.Put{x, y}, 1)); !Same(one, put) {
		t.Error("After(M, X Y, 1) is not Put(M, X)")
	}
	if none := must(t)(After(m, []api.Put{x}, 0)); !Same(m, none) {
		t.Error("After(M, X, 0) is not M")
	}
	if wiped := must(t)(Wiped(put, 1)); !Same(wiped, m) || Same(put, m) {
		t.Error("Wiped(Put(M, X), 1) is not M")
	}
	far, short := x, x
	far.Row = 8
	short.Bytes = filled(39, 1)
	got, err := Put(m, far)
	refused(t, got, err, api.ErrDisk)
	got, err = Put(m, short)
	refused(t, got, err, api.ErrDisk)
	got, err = Wiped(m, 3)
	refused(t, got, err, api.ErrParams)
	got, err = After(m, []api.Put{x}, 2)
	refused(t, got, err, api.ErrParams)
}

func TestP9_2PutEverySlot(t *testing.T) {
	for _, p := range few() {
		for _, m := range patterns(p) {
			was := mirrorOf(m)
			for i, a := range places(p) {
				x := a.put(some(p, i+500))
				got, err := Put(m, x)
				check(t, got, err, was.behind(x))
			}
		}
	}
	for _, m := range patterns(greatest()) {
		was := mirrorOf(m)
		for i, a := range edges(greatest()) {
			x := a.put(some(greatest(), i+9000))
			got, err := Put(m, x)
			check(t, got, err, was.behind(x))
		}
	}
}

func TestP9_2SizesOfSlots(t *testing.T) {
	for _, c := range []struct {
		p    api.Params
		size int
	}{
		{exampleP(), 40},
		{api.Params{K: 1, R: 0, Cell: 32, Rows: 8}, 48},
		{api.Params{K: 4, R: 0, Cell: 8, Rows: 8}, 36},
		{greatest(), 140},
	} {
		m := must(t)(Blank(c.p))
		for _, many := range []int{c.size - 4, c.size - 1, c.size + 1, c.size + 4} {
			got, err := Put(m, api.Put{Bytes: filled(many, 1)})
			refused(t, got, err, api.ErrDisk)
		}
		x := api.Put{Bytes: filled(c.size, 0)}
		got, err := Put(m, x)
		check(t, got, err, mirrorOf(m).behind(x))
	}
}

func TestP9_2PutRefused(t *testing.T) {
	wrongParams(func(p api.Params) {
		got, err := Put(api.Image{P: p, Slots: [][]byte{{1}}}, api.Put{Drive: -1})
		refused(t, got, err, api.ErrParams)
		got, err = Put(api.Image{P: p, Slots: make([][]byte, 48)}, exampleX())
		refused(t, got, err, api.ErrParams)
	})
	for _, p := range append(few(), greatest()) {
		right := place{}.put(some(p, 1))
		for _, m := range wrongImages(p) {
			for _, x := range []api.Put{right, {}, {Drive: -1}} {
				got, err := Put(m, x)
				refused(t, got, err, api.ErrImage)
			}
		}
		m := mixed(p)
		for _, x := range wrongPuts(p) {
			got, err := Put(m, x)
			refused(t, got, err, api.ErrDisk)
		}
	}
}

func TestP9_2AfterEveryN(t *testing.T) {
	for _, p := range few() {
		for seed, m := range patterns(p) {
			l, was := series(p, seed+1, 14), mirrorOf(m)
			for n := range len(l) + 1 {
				got, err := After(m, l, n)
				check(t, got, err, was.behind(l[:n]...))
			}
		}
	}
}

func TestP9_2AfterWithoutRawWrites(t *testing.T) {
	for _, p := range append(few(), greatest()) {
		for _, m := range patterns(p) {
			for _, l := range [][]api.Put{nil, {}} {
				got, err := After(m, l, 0)
				check(t, got, err, mirrorOf(m))
				for _, n := range []int{-1, 1, math.MinInt, math.MaxInt} {
					got, err := After(m, l, n)
					refused(t, got, err, api.ErrParams)
				}
			}
		}
	}
}

func TestP9_2AfterToOneSlot(t *testing.T) {
	for _, p := range few() {
		for _, a := range edges(p) {
			m := mixed(p)
			l := []api.Put{a.put(some(p, 1)), a.put(some(p, 2)), a.put(some(p, 1)), a.put(some(p, 3))}
			for n := range len(l) + 1 {
				got, err := After(m, l, n)
				check(t, got, err, mirrorOf(m).behind(l[:n]...))
			}
		}
	}
}

// many are as many raw writes as asked for, to all slots in turn; they share the bytes of a few.
func many(p api.Params, count int) []api.Put {
	all, held := places(p), [][]byte{some(p, 1), some(p, 2), some(p, 3), some(p, 4), some(p, 5)}
	l := make([]api.Put, count)
	for i := range l {
		l[i] = all[i%len(all)].put(held[i%5])
	}
	return l
}

func TestP9_2AfterMaxPuts(t *testing.T) {
	for _, p := range []api.Params{exampleP(), greatest()} {
		m := mixed(p)
		l := many(p, api.MaxPuts)
		for _, n := range []int{0, 1, 7, api.MaxPuts - 1, api.MaxPuts} {
			got, err := After(m, l, n)
			check(t, got, err, mirrorOf(m).behind(l[:n]...))
		}
		for _, n := range []int{-1, api.MaxPuts + 1, math.MaxInt, math.MinInt} {
			got, err := After(m, l, n)
			refused(t, got, err, api.ErrParams)
		}
		for _, count := range []int{api.MaxPuts + 1, api.MaxPuts + 2, 2 * api.MaxPuts} {
			l := many(p, count)
			for _, n := range []int{0, 1, -1, count, count + 1} {
				got, err := After(m, l, n)
				refused(t, got, err, api.ErrSize)
			}
		}
	}
}

func TestP9_2AfterRefused(t *testing.T) {
	wrongParams(func(p api.Params) {
		got, err := After(api.Image{P: p, Slots: [][]byte{{1}}}, []api.Put{{Drive: -1}}, -1)
		refused(t, got, err, api.ErrParams)
		got, err = After(api.Image{P: p, Slots: make([][]byte, 48)}, nil, 0)
		refused(t, got, err, api.ErrParams)
	})
	for _, p := range few() {
		l := series(p, 3, 5)
		for _, m := range wrongImages(p) {
			for _, n := range []int{0, 5, -1, 6} {
				got, err := After(m, l, n)
				refused(t, got, err, api.ErrImage)
				got, err = After(m, []api.Put{{}, {Row: -1}}, n)
				refused(t, got, err, api.ErrImage)
			}
		}
		for _, n := range []int{-1, -5, 6, 7, 1 << 32, math.MinInt, math.MinInt + 1, math.MaxInt} {
			got, err := After(mixed(p), l, n)
			refused(t, got, err, api.ErrParams)
		}
	}
}

func TestP9_2AfterWithAWrongRawWrite(t *testing.T) {
	for _, p := range few() {
		m, right := mixed(p), series(p, 3, 4)
		for i, x := range wrongPuts(p) {
			at := i % 5
			l := slices.Insert(slices.Clone(right), at, x)
			for _, n := range []int{0, at, at + 1, 5, -1, 6, math.MinInt, math.MaxInt} { // also behind n, also with an n that may not be
				got, err := After(m, l, n)
				refused(t, got, err, api.ErrDisk)
			}
		}
		for at := range 5 {
			for _, n := range []int{0, at, 5} {
				got, err := After(m, slices.Insert(slices.Clone(right), at, api.Put{}), n)
				refused(t, got, err, api.ErrDisk)
			}
		}
	}
}

func TestP9_2TooManyComesAheadOfTheRest(t *testing.T) {
	p := exampleP()
	l := many(p, api.MaxPuts+1)
	l[0], l[api.MaxPuts] = api.Put{Drive: -1}, api.Put{}
	for _, n := range []int{0, -1, math.MaxInt} {
		got, err := After(exampleM(t), l, n)
		refused(t, got, err, api.ErrSize)
		got, err = After(api.Image{P: p}, l, n)
		refused(t, got, err, api.ErrImage)
		got, err = After(api.Image{}, l, n)
		refused(t, got, err, api.ErrParams)
		got, err = After(exampleM(t), l[:api.MaxPuts], n)
		refused(t, got, err, api.ErrDisk)
		got, err = After(exampleM(t), l[1:], n)
		refused(t, got, err, api.ErrDisk)
	}
}

func TestP9_2WipedEveryDrive(t *testing.T) {
	for _, p := range append(few(), greatest()) {
		for _, m := range patterns(p) {
			was := mirrorOf(m)
			for drive := range p.K + p.R {
				got, err := Wiped(m, drive)
				check(t, got, err, was.without(drive))
				again, err := Wiped(got, drive) // blank already
				check(t, again, err, was.without(drive))
			}
		}
	}
}

func TestP9_2WipedAllDrives(t *testing.T) {
	for _, p := range few() {
		m, want := full(p), mirrorOf(full(p))
		for drive := p.K + p.R - 1; drive >= 0; drive-- {
			want = want.without(drive)
			m = must(t)(Wiped(m, drive))
			check(t, m, api.OK, want)
		}
		check(t, m, api.OK, mirror{p: p})
	}
}

func TestP9_2WipedRefused(t *testing.T) {
	wrongParams(func(p api.Params) {
		for _, drive := range []int{0, -1, math.MaxInt} {
			got, err := Wiped(api.Image{P: p, Slots: make([][]byte, 48)}, drive)
			refused(t, got, err, api.ErrParams)
		}
	})
	for _, p := range append(few(), greatest()) {
		for _, m := range wrongImages(p) {
			for _, drive := range []int{0, -1, p.K + p.R, math.MaxInt} {
				got, err := Wiped(m, drive)
				refused(t, got, err, api.ErrImage)
			}
		}
		for _, drive := range wrongNumbers(p.K + p.R) {
			got, err := Wiped(mixed(p), drive)
			refused(t, got, err, api.ErrParams)
		}
	}
}

// checkRow holds Row to a mirror.
func checkRow(t *testing.T, m api.Image, row int, want mirror) {
	t.Helper()
	pairs, err := Row(m, row)
	if err != api.OK || len(pairs) != want.p.K+want.p.R {
		t.Fatalf("%v: Row %d is %d pairs, %d", want.p, row, len(pairs), err)
	}
	for drive, pair := range pairs {
		for slot, held := range pair {
			if string(held) != want.held[place{drive, row, slot}] {
				t.Fatalf("%v: Row %d has %v in the drive %d, the slot %d", want.p, row, held, drive, slot)
			}
		}
	}
}

func TestP9_3Examples(t *testing.T) {
	pairs, err := Row(must(t)(Put(exampleM(t), exampleX())), 2)
	if err != api.OK || len(pairs) != 3 {
		t.Fatalf("Row(Put(M, X), 2) is %v, %d", pairs, err)
	}
	for drive, pair := range pairs {
		for slot, held := range pair {
			want := []byte{}
			if drive == 1 && slot == 0 {
				want = filled(40, 1)
			}
			if !bytes.Equal(held, want) {
				t.Errorf("Row(Put(M, X), 2) has %v in the drive %d, the slot %d", held, drive, slot)
			}
		}
	}
	if pairs, err := Row(exampleM(t), 8); pairs != nil || err != api.ErrParams {
		t.Errorf("Row(M, 8) is %v, %d", pairs, err)
	}
}

func TestP9_3EveryRow(t *testing.T) {
	for _, p := range append(few(), greatest()) {
		for _, m := range patterns(p) {
			want := mirrorOf(m)
			for row := range p.Rows {
				checkRow(t, m, row, want)
			}
		}
	}
}

func TestP9_3Refused(t *testing.T) {
	none := func(m api.Image, row int, want api.Errno) {
		t.Helper()
		if pairs, err := Row(m, row); pairs != nil || err != want {
			t.Fatalf("Row %d of %v with %d slots is %d pairs, %d, want none and %d", row, m.P, len(m.Slots), len(pairs), err, want)
		}
	}
	wrongParams(func(p api.Params) {
		for _, row := range []int{0, -1, math.MaxInt} {
			none(api.Image{P: p, Slots: make([][]byte, 48)}, row, api.ErrParams)
		}
	})
	for _, p := range append(few(), greatest()) {
		for _, m := range wrongImages(p) {
			for _, row := range []int{0, -1, p.Rows, math.MinInt} {
				none(m, row, api.ErrImage)
			}
		}
		for _, row := range wrongNumbers(p.Rows) {
			none(mixed(p), row, api.ErrParams)
		}
	}
}

// wantDiff is the raw writes that make b of a, by places; with what a has and b has not it is none, false.
func wantDiff(a, b mirror) ([]api.Put, bool) {
	var l []api.Put
	for _, at := range places(a.p) {
		old, held := a.held[at], b.held[at]
		if old != "" && held == "" {
			return nil, false
		}
		if old != held {
			l = append(l, at.put([]byte(held)))
		}
	}
	return l, true
}

// checkDiff holds Diff to the mirrors of both.
func checkDiff(t *testing.T, a, b api.Image) {
	t.Helper()
	got, err := Diff(a, b)
	want, may := wantDiff(mirrorOf(a), mirrorOf(b))
	if !may && (got != nil || err != api.ErrImage) {
		t.Fatalf("%v: Diff is %d raw writes, %d, want ErrImage", a.P, len(got), err)
	}
	if may && (err != api.OK || !samePuts(got, want)) {
		t.Fatalf("%v: Diff is %v, %d, want %v", a.P, got, err, want)
	}
}

func TestP9_4Examples(t *testing.T) {
	m, x, y := exampleM(t), exampleX(), exampleY()
	if l, err := Diff(m, must(t)(After(m, []api.Put{x, y}, 2))); err != api.OK || !samePuts(l, []api.Put{y}) {
		t.Errorf("Diff(M, After(M, X Y, 2)) is %v, %d", l, err)
	}
	if l, err := Diff(must(t)(Put(m, x)), m); l != nil || err != api.ErrImage {
		t.Errorf("Diff(Put(M, X), M) is %v, %d", l, err)
	}
}

func TestP9_4AllPatterns(t *testing.T) {
	for _, p := range append(few(), greatest()) {
		all := patterns(p)
		other := full(p)
		for i := range other.Slots {
			other.Slots[i] = some(p, i+9000)
		}
		all = append(all, other)
		for _, a := range all {
			for _, b := range all {
				checkDiff(t, a, b)
			}
		}
	}
}

func TestP9_4UnlikeInOneSlot(t *testing.T) {
	for _, p := range few()[:4] {
		for _, a := range patterns(p) {
			b := api.Image{P: p, Slots: slices.Clone(a.Slots)}
			for i, held := range a.Slots {
				last := some(p, i)
				last[len(last)-1]++
				for _, b.Slots[i] = range [][]byte{some(p, i+500), last, nil, {}} {
					checkDiff(t, a, b)
					checkDiff(t, b, a)
				}
				b.Slots[i] = held
			}
		}
	}
}

func TestP9_4BlankInBAlone(t *testing.T) {
	for _, p := range few() {
		m := full(p)
		for i, held := range m.Slots {
			b := full(p)
			for j := range b.Slots { // raw writes ahead of it and behind it
				b.Slots[j] = some(p, j+700)
			}
			for _, b.Slots[i] = range [][]byte{nil, {}, held[:0]} {
				if l, err := Diff(m, b); l != nil || err != api.ErrImage {
					t.Fatalf("%v: Diff with a blank slot %d is %d raw writes, %d", p, i, len(l), err)
				}
			}
		}
	}
}

func TestP9_4UnlikeParameters(t *testing.T) {
	all := append(few(), api.Params{K: 1, R: 2, Cell: 40, Rows: 8}, api.Params{K: 1, R: 2, Cell: 32, Rows: 8}, api.Params{K: 2, R: 1, Cell: 32, Rows: 8}, api.Params{K: 2, R: 1, Cell: 16, Rows: 9}, api.Params{K: 3, R: 0, Cell: 16, Rows: 8}, api.Params{K: 5, R: 1, Cell: 16, Rows: 8}, api.Params{K: 2, R: 1, Cell: 20, Rows: 16}, api.Params{K: 5, R: 1, Cell: 8, Rows: 8})
	for i, p := range all {
		for j, q := range all {
			a, b := must(t)(Blank(p)), must(t)(Blank(q))
			l, err := Diff(a, b)
			if i == j && (len(l) != 0 || err != api.OK) || i != j && (l != nil || err != api.ErrImage) {
				t.Fatalf("Diff of blank images of %v and %v is %v, %d", p, q, l, err)
			}
			if l, err := Diff(a, full(q)); i != j && (l != nil || err != api.ErrImage) {
				t.Fatalf("Diff of images of %v and %v is %v, %d", p, q, l, err)
			}
		}
	}
}

func TestP9_4Refused(t *testing.T) {
	none := func(a, b api.Image, want api.Errno) {
		t.Helper()
		if l, err := Diff(a, b); l != nil || err != want {
			t.Fatalf("Diff of %v with %d slots and %v with %d is %d raw writes, %d, want %d", a.P, len(a.Slots), b.P, len(b.Slots), len(l), err, want)
		}
	}
	wrongParams(func(p api.Params) {
		wrong := api.Image{P: p, Slots: make([][]byte, 48)}
		none(wrong, mixed(exampleP()), api.ErrParams)
		none(mixed(exampleP()), wrong, api.ErrParams)
		none(wrong, wrong, api.ErrParams)
		none(wrong, api.Image{P: exampleP()}, api.ErrParams) // a comes first
		none(api.Image{P: exampleP()}, wrong, api.ErrImage)
	})
	for _, p := range append(few(), greatest()) {
		right := mixed(p)
		for _, wrong := range wrongImages(p) {
			none(wrong, right, api.ErrImage)
			none(right, wrong, api.ErrImage)
			none(wrong, wrong, api.ErrImage)
			none(wrong, api.Image{}, api.ErrImage)
			none(api.Image{}, wrong, api.ErrParams)
		}
	}
}

// rowsOf are raw writes of rows, otherwise such as may not be.
func rowsOf(rows ...int) []api.Put {
	var l []api.Put
	for i, row := range rows {
		l = append(l, api.Put{Drive: -i, Row: row, Slot: i * 100, Bytes: filled(i, 1)})
	}
	return l
}

func TestP9_5Rows(t *testing.T) {
	for _, c := range []struct{ rows, want []int }{
		{nil, nil},
		{[]int{}, nil},
		{[]int{2, 2}, []int{2}}, // the chapter's
		{[]int{0}, []int{0}},
		{[]int{5, 5, 5, 5, 5, 5, 5}, []int{5}},
		{[]int{3, 1, 2}, []int{1, 2, 3}},
		{[]int{1, 2, 1, 2, 1}, []int{1, 2}},
		{[]int{9, 8, 7, 9, 8, 7}, []int{7, 8, 9}},
		{[]int{10, 9, 100, 2}, []int{2, 9, 10, 100}},
		{[]int{-1, 0, -3, -1, -2}, []int{-3, -2, -1, 0}},
		{[]int{255, 256, 1 << 32, -1 << 32, 0}, []int{-1 << 32, 0, 255, 256, 1 << 32}},
		{[]int{math.MaxInt, 0, math.MinInt, math.MaxInt, math.MinInt + 1, math.MaxInt - 1, math.MinInt}, []int{math.MinInt, math.MinInt + 1, 0, math.MaxInt - 1, math.MaxInt}},
	} {
		if got, err := Rows(rowsOf(c.rows...)); err != api.OK || !slices.Equal(got, c.want) {
			t.Errorf("Rows of %v are %v, %d, want %v", c.rows, got, err, c.want)
		}
	}
	if got, err := Rows([]api.Put{exampleX(), exampleX()}); err != api.OK || !slices.Equal(got, []int{2}) {
		t.Errorf("Rows(X X) are %v, %d", got, err)
	}
	if got, err := Rows([]api.Put{}); err != api.OK || len(got) != 0 {
		t.Errorf("Rows of none are %v, %d", got, err)
	}
}

func TestP9_5RisingEachOnce(t *testing.T) {
	for seed := range 200 {
		throw := dice(seed)
		there := map[int]bool{}
		var rows []int
		for range throw.below(60) {
			row := throw.below(2*seed+1) - seed/2
			there[row] = true
			rows = append(rows, row)
		}
		got, err := Rows(rowsOf(rows...))
		if err != api.OK || len(got) != len(there) {
			t.Fatalf("Rows of %v are %v, %d", rows, got, err)
		}
		for i, row := range got {
			if !there[row] || i > 0 && got[i-1] >= row {
				t.Fatalf("Rows of %v are %v", rows, got)
			}
		}
	}
}

func TestP9_5MaxPuts(t *testing.T) {
	l := make([]api.Put, api.MaxPuts+1)
	for i := range l {
		l[i].Row = -i
	}
	got, err := Rows(l[:api.MaxPuts])
	if err != api.OK || len(got) != api.MaxPuts || got[0] != -(api.MaxPuts-1) || got[api.MaxPuts-1] != 0 || !slices.IsSorted(got) {
		t.Fatalf("Rows of MaxPuts are %d, %d", len(got), err)
	}
	for _, l := range [][]api.Put{l, make([]api.Put, api.MaxPuts+1), make([]api.Put, 3*api.MaxPuts)} {
		if got, err := Rows(l); got != nil || err != api.ErrSize {
			t.Fatalf("Rows of %d are %d, %d, want ErrSize", len(l), len(got), err)
		}
	}
	if got, err := Rows(make([]api.Put, api.MaxPuts)); err != api.OK || !slices.Equal(got, []int{0}) {
		t.Fatalf("Rows of one row MaxPuts times are %v, %d", got, err)
	}
}

func TestP9_7AfterIsPutOneByOne(t *testing.T) {
	for _, p := range few() {
		for seed, m := range patterns(p) {
			l, each := series(p, seed+20, 12), m
			for n := range len(l) + 1 {
				if together := must(t)(After(m, l, n)); !Same(together, each) {
					t.Fatalf("%v: After of %d is not Put one by one", p, n)
				}
				if n < len(l) {
					each = must(t)(Put(each, l[n]))
				}
			}
		}
	}
}

func TestP9_7BehindDiffAIsB(t *testing.T) {
	for _, p := range append(few(), greatest()) {
		for seed, a := range patterns(p) {
			l := series(p, seed+40, 30)
			b := must(t)(After(a, l, len(l)))
			diff, err := Diff(a, b)
			if err != api.OK {
				t.Fatalf("Diff is %d", err)
			}
			if again := must(t)(After(a, diff, len(diff))); !Same(again, b) {
				t.Fatalf("%v: behind Diff of a and b, a is not b", p)
			}
			checkDiff(t, a, b)
			if len(diff) == 0 || len(diff) > len(l) {
				t.Fatalf("%v: Diff behind %d raw writes is %d", p, len(l), len(diff))
			}
			slices.Reverse(diff) // in any order
			if again := must(t)(After(a, diff, len(diff))); !Same(again, b) {
				t.Fatalf("%v: behind Diff backwards a is not b", p)
			}
		}
	}
}

func TestP9_7DiffOfAnImageAndItself(t *testing.T) {
	for _, p := range append(few(), greatest()) {
		for _, m := range patterns(p) {
			if l, err := Diff(m, m); len(l) != 0 || err != api.OK {
				t.Fatalf("%v: Diff of an image and itself is %d raw writes, %d", p, len(l), err)
			}
			other := api.Image{P: p, Slots: slices.Clone(m.Slots)}
			for i, held := range other.Slots { // blank is blank, nil or not
				if held == nil {
					other.Slots[i] = []byte{}
				} else if len(held) == 0 {
					other.Slots[i] = nil
				}
			}
			if l, err := Diff(m, other); len(l) != 0 || err != api.OK {
				t.Fatalf("%v: Diff of nil and empty is %d raw writes, %d", p, len(l), err)
			}
		}
	}
}

func TestP9_7ARawWriteChangesNoOtherSlot(t *testing.T) {
	for _, p := range few() {
		for _, m := range patterns(p) {
			for i, a := range places(p) {
				got := must(t)(Put(m, a.put(some(p, i+300))))
				for j, held := range got.Slots {
					if i != j && !bytes.Equal(held, m.Slots[j]) || i == j && !bytes.Equal(held, some(p, i+300)) {
						t.Fatalf("%v: Put to the slot %d leaves %v in %d", p, i, held, j)
					}
				}
			}
		}
	}
}

func TestP9_7WipedChangesNoOtherDrive(t *testing.T) {
	for _, p := range few() {
		for _, m := range patterns(p) {
			for drive := range p.K + p.R {
				got := must(t)(Wiped(m, drive))
				for i, a := range places(p) {
					if a.drive == drive && len(got.Slots[i]) != 0 || a.drive != drive && !bytes.Equal(got.Slots[i], m.Slots[i]) {
						t.Fatalf("%v: Wiped %d leaves %v in %v", p, drive, got.Slots[i], a)
					}
				}
			}
		}
	}
}

func TestP9_7AllRowsTellAllSlots(t *testing.T) {
	for _, p := range append(few(), greatest()) {
		for _, m := range patterns(p) {
			told := must(t)(Blank(p))
			for row := range p.Rows {
				pairs, err := Row(m, row)
				if err != api.OK {
					t.Fatalf("Row %d is %d", row, err)
				}
				for drive, pair := range pairs {
					copy(told.Slots[(drive*p.Rows+row)*2:], pair[:])
				}
			}
			if !Same(told, m) {
				t.Fatalf("%v: all rows do not tell all slots", p)
			}
		}
	}
}
