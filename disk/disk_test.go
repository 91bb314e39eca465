package disk

import (
	"bytes"
	"math"
	"slices"
	"testing"

	"twoslot/api"
)

func exampleP() api.Params { return api.Params{K: 2, R: 1, Cell: 16, Rows: 8} }

// exampleX is the chapter's X.
func exampleX() api.Put { return api.Put{Bytes: filled(40, 1)} }

// few are parameters with the fewest drives, rows and bytes of a cell, with the most, and with some between.
func few() []api.Params {
	return []api.Params{
		exampleP(),
		{K: 1, R: 0, Cell: 32, Rows: 8},
		{K: 4, R: 0, Cell: 8, Rows: 8},
		{K: 1, R: 4, Cell: 64, Rows: 9},
		{K: 3, R: 2, Cell: 11, Rows: 13},
		{K: 12, R: 4, Cell: 8, Rows: 10},
	}
}

func greatest() api.Params { return api.Params{K: 12, R: 4, Cell: 64, Rows: 256} }

// wrongParams has wrong numbers at every place.
func wrongParams(visit func(p api.Params)) {
	for _, p := range append(few(), greatest()) {
		for _, wrong := range []int{-1, math.MinInt, math.MaxInt, 257, 1 << 32, -1 << 32, 1 << 62} {
			for _, place := range []*int{&p.K, &p.R, &p.Cell, &p.Rows} {
				right := *place
				*place = wrong
				visit(p)
				*place = right
			}
		}
	}
	for _, p := range []api.Params{{}, {K: 0, R: 3, Cell: 16, Rows: 8}, {K: 13, R: 0, Cell: 16, Rows: 8}, {K: 2, R: 5, Cell: 16, Rows: 8}, {K: 2, R: 1, Cell: 15, Rows: 8}, {K: 12, R: 1, Cell: 7, Rows: 8}, {K: 2, R: 1, Cell: 65, Rows: 8}, {K: 2, R: 1, Cell: 16, Rows: 7}} {
		visit(p)
	}
}

// wrongNumbers can't number any of many things.
func wrongNumbers(many int) []int {
	return []int{-1, -2, -many, math.MinInt, math.MinInt + 1, many, many + 1, 2 * many, 256, 1 << 32, 1 << 62, math.MaxInt - 1, math.MaxInt}
}

// size is the document's size of a slot, by adding.
func size(p api.Params) int {
	all := 12
	for range p.K {
		all += 4
	}
	for range p.R {
		all += 4
	}
	return all + p.Cell
}

func filled(many int, value byte) []byte { return bytes.Repeat([]byte{value}, many) }

// dice makes numbers that are the same in every run.
type dice uint64

func (d *dice) below(many int) int {
	*d = *d*6364136223846793005 + 1442695040888963407
	return int(uint64(*d)>>33) % many
}

// some is a slot's bytes, by seeds unlike.
func some(p api.Params, seed int) []byte {
	throw := dice(seed)
	made := make([]byte, size(p))
	for i := range made {
		made[i] = byte(throw.below(256))
	}
	made[0], made[1] = byte(seed), byte(seed>>8)
	return made
}

// place is a slot.
type place struct{ drive, row, slot int }

// places are all slots, in the order of an image.
func places(p api.Params) []place {
	var all []place
	for drive := range p.K + p.R {
		for row := range p.Rows {
			all = append(all, place{drive, row, 0}, place{drive, row, 1})
		}
	}
	return all
}

// edges are the slots of the first and of the last drive and row.
func edges(p api.Params) []place {
	var all []place
	for _, drive := range []int{0, p.K + p.R - 1} {
		for _, row := range []int{0, p.Rows - 1} {
			all = append(all, place{drive, row, 0}, place{drive, row, 1})
		}
	}
	return all
}

func (a place) put(held []byte) api.Put {
	return api.Put{Drive: a.drive, Row: a.row, Slot: a.slot, Bytes: held}
}

// mirror is what a disk must hold and tell, kept by places.
type mirror struct {
	p      api.Params
	held   map[place][]byte
	wiped  map[int]bool
	off    bool
	cut    int // -1: none
	writes int
}

func newMirror(p api.Params) *mirror {
	return &mirror{p: p, held: map[place][]byte{}, wiped: map[int]bool{}, cut: -1}
}

func (m *mirror) there(a place) bool {
	return a.drive >= 0 && a.drive < m.p.K+m.p.R && a.row >= 0 && a.row < m.p.Rows && (a.slot == 0 || a.slot == 1)
}

func (m *mirror) write(l ...api.Put) api.Errno {
	for _, x := range l {
		a := place{x.Drive, x.Row, x.Slot}
		if m.off {
			return api.ErrPower
		}
		if !m.there(a) || len(x.Bytes) != size(m.p) {
			return api.ErrDisk
		}
		if m.cut == 0 {
			m.off, m.cut = true, -1
			return api.ErrPower
		}
		if m.cut > 0 {
			m.cut--
		}
		m.held[a] = bytes.Clone(x.Bytes)
		m.writes++
	}
	return api.OK
}

func (m *mirror) wipe(drive int) api.Errno {
	if drive < 0 || drive >= m.p.K+m.p.R {
		return api.ErrDisk
	}
	for a := range m.held {
		if a.drive == drive {
			delete(m.held, a)
		}
	}
	m.wiped[drive] = true
	return api.OK
}

func (m *mirror) cutBy(n int) api.Errno {
	if n < 0 {
		return api.ErrParams
	}
	m.cut = n
	return api.OK
}

func (m *mirror) on() { m.off, m.cut = false, -1 }

func (m *mirror) wipedRising() []int {
	var list []int
	for drive := range m.p.K + m.p.R {
		if m.wiped[drive] {
			list = append(list, drive)
		}
	}
	return list
}

// must is a disk that is made.
func must(d *Disk, err api.Errno) *Disk {
	if err != api.OK || d == nil {
		panic(err)
	}
	return d
}

// imageOf is a disk's image.
func imageOf(t *testing.T, d *Disk) api.Image {
	t.Helper()
	m, err := d.Image()
	if err != api.OK {
		t.Fatalf("Image is %d", err)
	}
	return m
}

// checkHeld holds the image of a disk to a mirror.
func checkHeld(t *testing.T, d *Disk, want *mirror) {
	t.Helper()
	m, all := imageOf(t, d), places(want.p)
	if m.P != want.p || len(m.Slots) != len(all) {
		t.Fatalf("Image has %v and %d slots, want %v and %d", m.P, len(m.Slots), want.p, len(all))
	}
	for i, a := range all {
		if !bytes.Equal(m.Slots[i], want.held[a]) {
			t.Fatalf("%v: Image has %v in %v, want %v", want.p, m.Slots[i], a, want.held[a])
		}
	}
}

// checkRead holds Read of every slot to a mirror.
func checkRead(t *testing.T, d *Disk, want *mirror) {
	t.Helper()
	for _, a := range places(want.p) {
		held, err := d.Read(a.drive, a.row, a.slot)
		if want.off && (err != api.ErrPower || held != nil) {
			t.Fatalf("Read %v without power is %v, %d", a, held, err)
		}
		if !want.off && (err != api.OK || !bytes.Equal(held, want.held[a])) {
			t.Fatalf("%v: Read %v is %v, %d, want %v", want.p, a, held, err, want.held[a])
		}
	}
}

// check holds all that a disk tells to a mirror; the cut alone shows only when raw writes are made.
func check(t *testing.T, d *Disk, want *mirror) {
	t.Helper()
	if p, err := d.Params(); p != want.p || err != api.OK {
		t.Fatalf("Params is %v, %d, want %v", p, err, want.p)
	}
	if d.Off() != want.off || d.Writes() != want.writes || !slices.Equal(d.Wiped(), want.wipedRising()) {
		t.Fatalf("%v: Off, Writes, Wiped are %t, %d, %v, want %t, %d, %v", want.p, d.Off(), d.Writes(), d.Wiped(), want.off, want.writes, want.wipedRising())
	}
	checkHeld(t, d, want)
	checkRead(t, d, want)
}

// made is a disk with some written slots, and its mirror.
func made(t *testing.T, p api.Params) (*Disk, *mirror) {
	t.Helper()
	d, m := must(New(p)), newMirror(p)
	for i, a := range places(p) {
		if i%3 != 1 {
			checkWrite(t, d, m, a.put(some(p, i)))
		}
	}
	return d, m
}

// checkWrite writes to a disk and to its mirror.
func checkWrite(t *testing.T, d *Disk, m *mirror, l ...api.Put) {
	t.Helper()
	if got, want := d.Write(l...), m.write(l...); got != want {
		t.Fatalf("%v: Write of %d is %d, want %d", m.p, len(l), got, want)
	}
}

// turnOff lets the power of a disk and its mirror fail.
func turnOff(t *testing.T, d *Disk, m *mirror) {
	t.Helper()
	if err := d.Cut(0); err != api.OK {
		t.Fatalf("Cut(0) is %d", err)
	}
	m.cutBy(0)
	checkWrite(t, d, m, place{}.put(filled(size(m.p), 1)))
	if !m.off || !d.Off() {
		t.Fatal("the power does not fail")
	}
}

func TestP8_1New(t *testing.T) {
	for k := 1; k <= 12; k++ {
		for r := range 5 {
			p := api.Params{K: k, R: r, Cell: 64 - k, Rows: 8 + k + r}
			check(t, must(New(p)), newMirror(p))
		}
	}
	for _, p := range append(few(), greatest()) {
		check(t, must(New(p)), newMirror(p))
	}
}

func TestP8_1SizesOfSlots(t *testing.T) {
	for _, c := range []struct {
		p    api.Params
		size int
	}{
		{exampleP(), 40},
		{api.Params{K: 1, R: 0, Cell: 32, Rows: 8}, 48},
		{api.Params{K: 4, R: 0, Cell: 8, Rows: 8}, 36},
		{greatest(), 140},
	} {
		d := must(New(c.p))
		for _, many := range []int{c.size - 4, c.size - 1, c.size + 1, c.size + 4} {
			if err := d.Write(api.Put{Bytes: filled(many, 1)}); err != api.ErrDisk {
				t.Fatalf("%v: Write of %d bytes is %d", c.p, many, err)
			}
		}
		if err := d.Write(api.Put{Bytes: filled(c.size, 1)}); err != api.OK {
			t.Fatalf("%v: Write of %d bytes is %d", c.p, c.size, err)
		}
	}
}

// patterns are images of parameters: blank ones by nil and by none, written ones, some of both.
func patterns(p api.Params) []api.Image {
	var all []api.Image
	many := len(places(p))
	for _, written := range []func(i int) bool{
		func(i int) bool { return false },
		func(i int) bool { return true },
		func(i int) bool { return i == 0 },
		func(i int) bool { return i == many-1 },
		func(i int) bool { return i%2 == 0 },
		func(i int) bool { return i%7 == 3 },
	} {
		m := api.Image{P: p}
		for i := range many {
			switch {
			case written(i):
				m.Slots = append(m.Slots, some(p, i))
			case i%2 == 0:
				m.Slots = append(m.Slots, nil)
			default:
				m.Slots = append(m.Slots, []byte{})
			}
		}
		all = append(all, m)
	}
	return all
}

// mirrorOf is what a disk of an image must be.
func mirrorOf(m api.Image) *mirror {
	want := newMirror(m.P)
	for i, a := range places(m.P) {
		if len(m.Slots[i]) > 0 {
			want.held[a] = bytes.Clone(m.Slots[i])
		}
	}
	return want
}

func TestP8_1Of(t *testing.T) {
	for _, p := range append(few(), greatest()) {
		for _, m := range patterns(p) {
			check(t, must(Of(m)), mirrorOf(m))
		}
	}
}

func TestP8_1MadeWithoutACut(t *testing.T) {
	for _, p := range few() {
		for _, m := range patterns(p) {
			d, want := must(Of(m)), mirrorOf(m)
			for i, a := range places(p) {
				checkWrite(t, d, want, a.put(some(p, i+1000)))
			}
			check(t, d, want)
		}
	}
}

func TestP8_1OfTakesOverNothingElse(t *testing.T) {
	d, m := made(t, exampleP())
	d.Wipe(1)
	m.wipe(1)
	turnOff(t, d, m)
	twin, want := must(Of(imageOf(t, d))), newMirror(exampleP())
	want.held = m.held
	check(t, twin, want)
}

func TestP8_1WrongParams(t *testing.T) {
	refused := func(d *Disk, err api.Errno, p api.Params) {
		t.Helper()
		if d != nil || err != api.ErrParams {
			t.Fatalf("New or Of of %v is %v, %d, want nil, ErrParams", p, d, err)
		}
	}
	wrongParams(func(p api.Params) {
		d, err := New(p)
		refused(d, err, p)
		for _, slots := range [][][]byte{nil, make([][]byte, 48), {{1}}, {nil, {1, 2}, filled(40, 1)}} {
			d, err := Of(api.Image{P: p, Slots: slots})
			refused(d, err, p)
		}
	})
}

func TestP8_1WrongImages(t *testing.T) {
	refused := func(m api.Image) {
		t.Helper()
		if d, err := Of(m); d != nil || err != api.ErrImage {
			t.Fatalf("Of of %v with %d slots is %v, %d, want nil, ErrImage", m.P, len(m.Slots), d, err)
		}
	}
	for _, p := range few() {
		right := patterns(p)[4]
		many := len(right.Slots)
		for _, count := range []int{0, 1, many / 2, many - 2, many - 1} {
			refused(api.Image{P: p, Slots: right.Slots[:count]})
		}
		refused(api.Image{P: p})
		refused(api.Image{P: p, Slots: append(slices.Clone(right.Slots), nil)})
		refused(api.Image{P: p, Slots: append(slices.Clone(right.Slots), right.Slots...)})
		for i := range right.Slots {
			for _, count := range []int{1, size(p) - 1, size(p) + 1, 2 * size(p)} {
				m := api.Image{P: p, Slots: slices.Clone(right.Slots)}
				m.Slots[i] = filled(count, 1)
				refused(m)
			}
		}
	}
}

func TestP8_1TheSlotsOfAnotherImage(t *testing.T) {
	m := patterns(exampleP())[0]
	m.P.Rows = 9
	if d, err := Of(m); d != nil || err != api.ErrImage {
		t.Fatalf("Of of too few slots for its rows is %d", err)
	}
	m = patterns(exampleP())[1]
	m.P.Cell = 17
	if d, err := Of(m); d != nil || err != api.ErrImage {
		t.Fatalf("Of of slots of a lesser cell is %d", err)
	}
}

func TestP8_1ParamsAndImageWithoutPower(t *testing.T) {
	for _, p := range few() {
		d, m := made(t, p)
		turnOff(t, d, m)
		check(t, d, m)
	}
}

// onNobodys are all calls of a disk that nobody made, by name: whether each tells ErrNil, or zero values alone.
func onNobodys(d *Disk) map[string]bool {
	p, errP := d.Params()
	m, errM := d.Image()
	held, errR := d.Read(0, 0, 0)
	wrong, errW := d.Read(-1, 99, 2)
	return map[string]bool{
		"Params": p == api.Params{} && errP == api.ErrNil,
		"Image":  m.P == api.Params{} && m.Slots == nil && errM == api.ErrNil,
		"Read":   held == nil && errR == api.ErrNil && wrong == nil && errW == api.ErrNil,
		"Write":  d.Write() == api.ErrNil && d.Write(api.Put{}) == api.ErrNil && d.Write(exampleX(), exampleX()) == api.ErrNil,
		"Wipe":   d.Wipe(0) == api.ErrNil && d.Wipe(-1) == api.ErrNil && d.Wipe(math.MaxInt) == api.ErrNil,
		"Cut":    d.Cut(0) == api.ErrNil && d.Cut(-1) == api.ErrNil && d.Cut(5) == api.ErrNil,
		"On":     d.On() == api.ErrNil,
		"Whole":  d.Whole() == api.ErrNil,
		"Off":    !d.Off(),
		"Writes": d.Writes() == 0,
		"Wiped":  len(d.Wiped()) == 0,
	}
}

func TestP8_1NobodysDisk(t *testing.T) {
	zero := Disk{}
	for _, d := range []*Disk{nil, new(Disk), &zero} {
		for range 2 { // what was asked first changes nothing
			for name, well := range onNobodys(d) {
				if !well {
					t.Fatalf("%s of a disk that nobody made (nil: %t)", name, d == nil)
				}
			}
		}
	}
}

func TestP8_2Examples(t *testing.T) {
	d, x := must(New(exampleP())), exampleX()
	if err := d.Write(x); err != api.OK {
		t.Fatalf("Write(X) is %d", err)
	}
	if held, err := d.Read(0, 0, 0); err != api.OK || !bytes.Equal(held, filled(40, 1)) {
		t.Fatalf("Read(0, 0, 0) is %v, %d", held, err)
	}
	if held, err := d.Read(0, 0, 1); err != api.OK || len(held) != 0 {
		t.Fatalf("Read(0, 0, 1) is %v, %d", held, err)
	}
	if d.Writes() != 1 {
		t.Fatalf("Writes is %d", d.Writes())
	}
	row, short := exampleX(), exampleX()
	row.Row, short.Bytes = 8, short.Bytes[:39]
	if a, b := d.Write(row), d.Write(short); a != api.ErrDisk || b != api.ErrDisk {
		t.Fatalf("Write of the row 8 is %d, of 39 bytes %d", a, b)
	}
}

func TestP8_2EverySlot(t *testing.T) {
	for _, p := range few() {
		d, m := must(New(p)), newMirror(p)
		for i, a := range places(p) {
			checkWrite(t, d, m, a.put(some(p, i)))
			checkHeld(t, d, m)
		}
		check(t, d, m)
	}
}

func TestP8_2TheFirstAndTheLast(t *testing.T) {
	for _, p := range append(few(), greatest()) {
		for _, a := range edges(p) {
			d, m := must(New(p)), newMirror(p)
			checkWrite(t, d, m, a.put(some(p, 7)))
			check(t, d, m)
		}
	}
}

func TestP8_2NoRawWrites(t *testing.T) {
	for _, p := range few() {
		d, m := made(t, p)
		d.Cut(0)
		m.cutBy(0)
		checkWrite(t, d, m)
		checkWrite(t, d, m, []api.Put{}...)
		check(t, d, m)
		turnOff(t, d, m)
		checkWrite(t, d, m)
		check(t, d, m)
	}
}

func TestP8_2TwiceTheSameSlot(t *testing.T) {
	for _, p := range few() {
		for _, a := range edges(p) {
			d, m := made(t, p)
			checkWrite(t, d, m, a.put(some(p, 1)), a.put(some(p, 2)))
			check(t, d, m)
			checkWrite(t, d, m, a.put(some(p, 3)))
			checkWrite(t, d, m, a.put(some(p, 3)))
			check(t, d, m)
		}
	}
}

func TestP8_2All(t *testing.T) {
	for _, p := range few() {
		var l []api.Put
		for i, a := range places(p) {
			l = append(l, a.put(some(p, i)))
		}
		d, m := must(New(p)), newMirror(p)
		checkWrite(t, d, m, l...)
		slices.Reverse(l)
		checkWrite(t, d, m, l[:len(l)/2]...)
		check(t, d, m)
	}
}

func TestP8_2MoreThanAnotherListMayHave(t *testing.T) {
	p := exampleP()
	d, last := must(New(p)), some(p, 9)
	l := slices.Repeat([]api.Put{exampleX()}, 1<<16+1)
	l[len(l)-1].Bytes = last
	if err := d.Write(l...); err != api.OK || d.Writes() != 1<<16+1 {
		t.Fatalf("Write of %d is %d, and makes %d", len(l), err, d.Writes())
	}
	if held, _ := d.Read(0, 0, 0); !bytes.Equal(held, last) {
		t.Fatalf("Read is %v", held)
	}
}

func TestP8_2AnyBytes(t *testing.T) {
	p := exampleP()
	d, m := must(New(p)), newMirror(p)
	for value := range 256 {
		checkWrite(t, d, m, place{1, 2, 1}.put(filled(40, byte(value))))
		checkHeld(t, d, m)
	}
}

// wrongPuts are raw writes that may not be, each by one thing.
func wrongPuts(p api.Params) []api.Put {
	right := some(p, 3)
	last := place{p.K + p.R - 1, p.Rows - 1, 1}
	var all []api.Put
	for _, a := range []place{{}, last} {
		for _, drive := range wrongNumbers(p.K + p.R) {
			all = append(all, place{drive, a.row, a.slot}.put(right))
		}
		for _, row := range wrongNumbers(p.Rows) {
			all = append(all, place{a.drive, row, a.slot}.put(right))
		}
		for _, slot := range wrongNumbers(2) {
			all = append(all, place{a.drive, a.row, slot}.put(right))
		}
		for _, many := range []int{0, 1, p.Cell, len(right) - 1, len(right) + 1, 2 * len(right), 1 << 16, 1<<16 + 1} {
			all = append(all, a.put(filled(many, 1)))
		}
		all = append(all, a.put(nil))
	}
	return slices.DeleteFunc(all, func(x api.Put) bool { // 256 may be a right number
		return x.Drive >= 0 && x.Drive < p.K+p.R && x.Row >= 0 && x.Row < p.Rows && x.Slot >= 0 && x.Slot < 2 && len(x.Bytes) == len(right)
	})
}

func TestP8_2WrongRawWrites(t *testing.T) {
	for _, p := range few() {
		d, m := made(t, p)
		for _, x := range wrongPuts(p) {
			if err := d.Write(x); err != api.ErrDisk {
				t.Fatalf("%v: Write of %v is %d, want ErrDisk", p, x, err)
			}
			if d.Writes() != m.writes || d.Off() {
				t.Fatalf("%v: a refused Write of %v counts", p, x)
			}
		}
		check(t, d, m)
	}
}

func TestP8_2AWrongOneAmongRightOnes(t *testing.T) {
	for _, p := range few() {
		all := places(p)
		for i, wrong := range wrongPuts(p) {
			d, m := must(New(p)), newMirror(p)
			many := 1 + i%5
			at := i % (many + 1)
			var l []api.Put
			for j := range many {
				l = append(l, all[(i*7+j*11)%len(all)].put(some(p, i+j)))
			}
			checkWrite(t, d, m, slices.Insert(l, at, wrong)...)
			if d.Writes() != at {
				t.Fatalf("%v: %d are written ahead of a wrong one at %d", p, d.Writes(), at)
			}
			checkHeld(t, d, m)
		}
	}
}

func TestP8_2EveryPlaceOfAWrongOne(t *testing.T) {
	p := exampleP()
	for at := range 7 {
		l := slices.Repeat([]api.Put{place{2, 7, 1}.put(some(p, 1)), place{0, 3, 0}.put(some(p, 2))}, 3)
		l[at%6].Bytes = some(p, 5)
		d, m := made(t, p)
		before := d.Writes()
		if err := d.Write(slices.Insert(l, at, place{0, 8, 0}.put(some(p, 1)))...); err != api.ErrDisk || d.Writes() != before+at {
			t.Fatalf("Write with a wrong one at %d is %d, and makes %d", at, err, d.Writes()-before)
		}
		m.write(slices.Insert(slices.Clone(l), at, place{0, 8, 0}.put(some(p, 1)))...)
		check(t, d, m)
	}
}

func TestP8_2WithoutPower(t *testing.T) {
	for _, p := range few() {
		d, m := made(t, p)
		turnOff(t, d, m)
		for _, x := range append(wrongPuts(p), place{}.put(some(p, 1)), edges(p)[7].put(some(p, 1))) {
			if err := d.Write(x); err != api.ErrPower {
				t.Fatalf("%v: Write of %v without power is %d", p, x, err)
			}
		}
		checkWrite(t, d, m, place{}.put(some(p, 1)), api.Put{}, place{}.put(some(p, 2)))
		check(t, d, m)
	}
}

func TestP8_2AWrongOneComesAheadOfTheCut(t *testing.T) {
	for _, p := range few() {
		for _, wrong := range wrongPuts(p) {
			d := must(New(p))
			d.Cut(0)
			if err := d.Write(wrong); err != api.ErrDisk || d.Off() {
				t.Fatalf("%v: Write of %v at the cut is %d, Off %t", p, wrong, err, d.Off())
			}
			if err := d.Write(place{}.put(some(p, 1))); err != api.ErrPower || !d.Off() || d.Writes() != 0 {
				t.Fatalf("%v: the cut is gone by a wrong raw write: %d", p, err)
			}
		}
	}
}

func TestP8_3Examples(t *testing.T) {
	d := must(New(exampleP()))
	if held, err := d.Read(3, 0, 0); held != nil || err != api.ErrDisk {
		t.Fatalf("Read(3, 0, 0) is %v, %d", held, err)
	}
}

func TestP8_3WrongPlaces(t *testing.T) {
	for _, p := range append(few(), greatest()) {
		d, m := must(New(p)), newMirror(p)
		for _, x := range wrongPuts(p) {
			if len(x.Bytes) != size(p) {
				continue // a right place
			}
			if held, err := d.Read(x.Drive, x.Row, x.Slot); held != nil || err != api.ErrDisk {
				t.Fatalf("%v: Read of %d %d %d is %v, %d", p, x.Drive, x.Row, x.Slot, held, err)
			}
		}
		check(t, d, m)
		turnOff(t, d, m)
		for _, x := range wrongPuts(p) {
			if held, err := d.Read(x.Drive, x.Row, x.Slot); held != nil || err != api.ErrPower {
				t.Fatalf("%v: Read of %d %d %d without power is %v, %d", p, x.Drive, x.Row, x.Slot, held, err)
			}
		}
	}
}

func TestP8_3ReadsChangeNothing(t *testing.T) {
	d, m := made(t, exampleP())
	d.Cut(1)
	m.cutBy(1)
	check(t, d, m)
	check(t, d, m)
	checkWrite(t, d, m, exampleX(), exampleX())
	check(t, d, m)
}

func TestP8_4Examples(t *testing.T) {
	d := must(New(exampleP()))
	d.Write(exampleX())
	if err := d.Wipe(0); err != api.OK {
		t.Fatalf("Wipe(0) is %d", err)
	}
	if held, err := d.Read(0, 0, 0); len(held) != 0 || err != api.OK {
		t.Fatalf("Read(0, 0, 0) is %v, %d", held, err)
	}
	if !slices.Equal(d.Wiped(), []int{0}) || d.Whole() != api.OK || len(d.Wiped()) != 0 {
		t.Fatalf("Wiped, behind Whole, is %v", d.Wiped())
	}
}

// checkWipe wipes a drive of a disk and of its mirror.
func checkWipe(t *testing.T, d *Disk, m *mirror, drive int) {
	t.Helper()
	if got, want := d.Wipe(drive), m.wipe(drive); got != want {
		t.Fatalf("%v: Wipe(%d) is %d, want %d", m.p, drive, got, want)
	}
	check(t, d, m)
}

func TestP8_4EveryDrive(t *testing.T) {
	for _, p := range few() {
		for drive := range p.K + p.R {
			d, m := made(t, p)
			checkWipe(t, d, m, drive)
			checkWipe(t, d, m, drive)
		}
	}
}

func TestP8_4AllDrives(t *testing.T) {
	for _, p := range append(few(), greatest()) {
		up, m := must(Of(patterns(p)[1])), mirrorOf(patterns(p)[1])
		down := must(Of(patterns(p)[1]))
		n := p.K + p.R
		for drive := range n {
			up.Wipe(drive)
			m.wipe(drive)
			down.Wipe(n - 1 - drive)
		}
		check(t, up, m)
		check(t, down, m)
	}
}

func TestP8_4WipedRises(t *testing.T) {
	p := api.Params{K: 3, R: 1, Cell: 16, Rows: 8}
	for number := range 4 * 4 * 4 * 4 {
		d, m := must(New(p)), newMirror(p)
		for rest := number; rest > 0; rest /= 4 {
			checkWipe(t, d, m, rest%4)
		}
	}
}

func TestP8_4WithoutPower(t *testing.T) {
	for _, p := range few() {
		d, m := made(t, p)
		turnOff(t, d, m)
		checkWipe(t, d, m, p.K+p.R-1)
		checkWipe(t, d, m, p.K+p.R)
		checkWipe(t, d, m, -1)
		d.On()
		m.on()
		check(t, d, m)
		turnOff(t, d, m)
		d.Whole()
		clear(m.wiped)
		check(t, d, m)
	}
}

func TestP8_4WrittenAgain(t *testing.T) {
	for _, p := range few() {
		d, m := made(t, p)
		n := p.K + p.R
		checkWipe(t, d, m, n-1)
		checkWrite(t, d, m, place{n - 1, p.Rows - 1, 1}.put(some(p, 4)), place{n - 1, 0, 0}.put(some(p, 5)))
		check(t, d, m)
		d.Whole()
		clear(m.wiped)
		check(t, d, m)
		checkWipe(t, d, m, n-1)
	}
}

func TestP8_4Whole(t *testing.T) {
	for _, p := range few() {
		d, m := made(t, p)
		for _, drive := range []int{p.K + p.R - 1, 0} {
			checkWipe(t, d, m, drive)
		}
		for range 2 {
			if err := d.Whole(); err != api.OK {
				t.Fatalf("Whole is %d", err)
			}
			clear(m.wiped)
			check(t, d, m)
		}
		checkWipe(t, d, m, 0)
	}
}

func TestP8_4WrongDrives(t *testing.T) {
	for _, p := range append(few(), greatest()) {
		d, m := must(Of(patterns(p)[1])), mirrorOf(patterns(p)[1])
		for _, drive := range wrongNumbers(p.K + p.R) {
			if err := d.Wipe(drive); err != api.ErrDisk {
				t.Fatalf("%v: Wipe(%d) is %d", p, drive, err)
			}
		}
		check(t, d, m)
	}
}

func TestP8_4WipesAreNoRawWrites(t *testing.T) {
	d, m := made(t, exampleP())
	d.Cut(1)
	m.cutBy(1)
	for drive := range 3 {
		checkWipe(t, d, m, drive)
	}
	d.Whole()
	clear(m.wiped)
	checkWrite(t, d, m, exampleX(), exampleX())
	check(t, d, m)
}

func TestP8_5Examples(t *testing.T) {
	d, x := must(New(exampleP())), exampleX()
	if a, b := d.Cut(1), d.Write(x, x); a != api.OK || b != api.ErrPower || !d.Off() || d.Writes() != 1 {
		t.Fatalf("Cut(1) is %d, Write(X, X) %d, Off %t, Writes %d", a, b, d.Off(), d.Writes())
	}
	if held, err := d.Read(0, 0, 0); held != nil || err != api.ErrPower {
		t.Fatalf("Read without power is %v, %d", held, err)
	}
	if err := d.On(); err != api.OK || d.Off() {
		t.Fatalf("On is %d, Off %t", err, d.Off())
	}
	if held, err := d.Read(0, 0, 0); err != api.OK || !bytes.Equal(held, filled(40, 1)) {
		t.Fatalf("Read is %v, %d", held, err)
	}
	if err := d.Cut(-1); err != api.ErrParams {
		t.Fatalf("Cut(-1) is %d", err)
	}
}

// series are raw writes to slots that are not all unlike.
func series(p api.Params, many int) []api.Put {
	all := places(p)
	var l []api.Put
	for i := range many {
		l = append(l, all[i*5%len(all)].put(some(p, i+50)))
	}
	return l
}

func TestP8_5CutByEveryNumber(t *testing.T) {
	for _, p := range few() {
		for n := range 9 {
			for many := range 9 {
				d, m := made(t, p)
				before, l := d.Writes(), series(p, many)
				if err := d.Cut(n); err != api.OK {
					t.Fatalf("Cut(%d) is %d", n, err)
				}
				m.cutBy(n)
				checkWrite(t, d, m, l...)
				if d.Writes() != before+min(n, many) || d.Off() != (many > n) {
					t.Fatalf("%v: cut by %d, %d of %d are made, Off %t", p, n, d.Writes()-before, many, d.Off())
				}
				checkHeld(t, d, m)
			}
		}
	}
}

func TestP8_5TheCutGoesOnFromWriteToWrite(t *testing.T) {
	for _, p := range few() {
		d, m := made(t, p)
		d.Cut(5)
		m.cutBy(5)
		l := series(p, 8)
		for _, from := range []int{0, 2, 4} {
			checkWrite(t, d, m, l[from:from+2]...)
			check(t, d, m)
		}
		if !d.Off() {
			t.Fatalf("%v: the sixth raw write is made", p)
		}
		checkWrite(t, d, m, l[6:]...)
		check(t, d, m)
	}
}

func TestP8_5JustAsManyAsTheCut(t *testing.T) {
	d, m := made(t, exampleP())
	d.Cut(3)
	m.cutBy(3)
	checkWrite(t, d, m, series(exampleP(), 3)...)
	if d.Off() {
		t.Fatal("the power fails behind the last raw write, not ahead of the next")
	}
	check(t, d, m)
	checkWrite(t, d, m, exampleX())
	check(t, d, m)
}

func TestP8_5ACutInThePlaceOfAnother(t *testing.T) {
	p := exampleP()
	for _, cuts := range [][]int{{0, 3}, {3, 0}, {2, 2}, {5, 1, 4}, {0, math.MaxInt}, {math.MaxInt, 2}} {
		for between := range 3 {
			d, m := made(t, p)
			for _, n := range cuts {
				if err := d.Cut(n); err != api.OK {
					t.Fatalf("Cut(%d) is %d", n, err)
				}
				m.cutBy(n)
				if n > between {
					checkWrite(t, d, m, series(p, between)...)
				}
			}
			checkWrite(t, d, m, series(p, 9)...)
			check(t, d, m)
		}
	}
}

func TestP8_5OnTakesTheCutAway(t *testing.T) {
	p := exampleP()
	for n := range 4 {
		d, m := made(t, p)
		d.Cut(n)
		if err := d.On(); err != api.OK {
			t.Fatalf("On is %d", err)
		}
		checkWrite(t, d, m, series(p, 9)...)
		check(t, d, m)
	}
}

func TestP8_5ACutWithoutPower(t *testing.T) {
	p := exampleP()
	d, m := made(t, p)
	turnOff(t, d, m)
	if err := d.Cut(-1); err != api.ErrParams {
		t.Fatalf("Cut(-1) without power is %d", err)
	}
	if err := d.Cut(2); err != api.OK || !d.Off() {
		t.Fatalf("Cut(2) without power is %d, Off %t", err, d.Off())
	}
	m.cutBy(2)
	checkWrite(t, d, m, exampleX())
	check(t, d, m)
	d.On()
	m.on()
	checkWrite(t, d, m, series(p, 9)...)
	check(t, d, m)
}

func TestP8_5NoCutBehindTheFailure(t *testing.T) {
	p := exampleP()
	d, m := made(t, p)
	for range 3 {
		turnOff(t, d, m)
		d.On()
		m.on()
		checkWrite(t, d, m, series(p, 9)...)
		check(t, d, m)
	}
}

func TestP8_5WrongCuts(t *testing.T) {
	p := exampleP()
	for _, n := range []int{-1, -2, -1 << 32, math.MinInt + 1, math.MinInt} {
		d, m := made(t, p)
		if err := d.Cut(n); err != api.ErrParams {
			t.Fatalf("Cut(%d) is %d", n, err)
		}
		checkWrite(t, d, m, series(p, 9)...)
		check(t, d, m)
		d.Cut(2)
		m.cutBy(2)
		if err := d.Cut(n); err != api.ErrParams {
			t.Fatalf("Cut(%d) is %d", n, err)
		}
		checkWrite(t, d, m, series(p, 9)...)
		check(t, d, m)
	}
}

func TestP8_5GreatCuts(t *testing.T) {
	p := exampleP()
	for _, n := range []int{1 << 31, 1 << 32, 1 << 62, math.MaxInt} {
		d, m := made(t, p)
		if err := d.Cut(n); err != api.OK {
			t.Fatalf("Cut(%d) is %d", n, err)
		}
		checkWrite(t, d, m, series(p, 40)...)
		check(t, d, m)
	}
}

func TestP8_5OnWithThePowerOn(t *testing.T) {
	d, m := made(t, exampleP())
	checkWipe(t, d, m, 1)
	for range 2 {
		if err := d.On(); err != api.OK {
			t.Fatalf("On is %d", err)
		}
		check(t, d, m)
	}
}

// roomy has spare room, in which bytes stand that nobody may change.
func roomy(held []byte) []byte {
	return append(bytes.Clone(held), filled(20, 77)...)[:len(held)]
}

// untouched tells whether roomy bytes are as they were, their spare room with them.
func untouched(held, was []byte) bool {
	return bytes.Equal(held[:len(held)+20], append(bytes.Clone(was), filled(20, 77)...))
}

// spoil writes into all of some bytes, their spare room with them.
func spoil(held []byte) {
	held = held[:cap(held)]
	for i := range held {
		held[i] ^= 0xff
	}
}

// roomyPuts are raw writes in a list with spare room, whose Bytes have some, too.
func roomyPuts(l []api.Put) []api.Put {
	var all []api.Put
	for _, x := range l {
		x.Bytes = roomy(x.Bytes)
		all = append(all, x)
	}
	spare := api.Put{Drive: -7, Row: -7, Slot: -7}
	return append(all, spare, spare)[:len(l)]
}

// samePuts tells whether roomy raw writes are as they were.
func samePuts(l, was []api.Put) bool {
	for i, x := range l {
		if x.Drive != was[i].Drive || x.Row != was[i].Row || x.Slot != was[i].Slot || !untouched(x.Bytes, was[i].Bytes) {
			return false
		}
	}
	for _, x := range l[:len(l)+2][len(l):] {
		if x.Drive != -7 || x.Row != -7 || x.Slot != -7 || x.Bytes != nil {
			return false
		}
	}
	return true
}

func TestP8_6WriteOnlyReads(t *testing.T) {
	for _, p := range few() {
		for _, was := range [][]api.Put{series(p, 9), wrongPuts(p)[:3], append(series(p, 4), wrongPuts(p)[5:7]...)} {
			d, m := must(New(p)), newMirror(p)
			for range 3 {
				l := roomyPuts(was)
				checkWrite(t, d, m, l...)
				if !samePuts(l, was) {
					t.Fatalf("%v: Write changes what is handed in", p)
				}
				turnOff(t, d, m)
				checkWrite(t, d, m, l...)
				d.Wipe(0)
				d.On()
				m.wipe(0)
				m.on()
				if !samePuts(l, was) {
					t.Fatalf("%v: what is handed in changes behind Write", p)
				}
			}
		}
	}
}

func TestP8_6LaterCallsChangeNothingHandedIn(t *testing.T) {
	p := exampleP()
	d := must(New(p))
	l := roomyPuts(series(p, 5))
	d.Write(l...)
	d.Write(api.Put{Drive: l[0].Drive, Row: l[0].Row, Slot: l[0].Slot, Bytes: filled(40, 200)})
	for drive := range 3 {
		d.Wipe(drive)
	}
	if !samePuts(l, series(p, 5)) {
		t.Fatal("a later call writes into what was handed in")
	}
}

func TestP8_6WhatWasWrittenIsKept(t *testing.T) {
	for _, p := range few() {
		d, m := must(New(p)), newMirror(p)
		l := roomyPuts(series(p, 9))
		checkWrite(t, d, m, l...)
		for i := range l {
			spoil(l[i].Bytes)
			l[i] = api.Put{Drive: 99}
		}
		check(t, d, m)
	}
}

func TestP8_6OneListOfBytesForManySlots(t *testing.T) {
	p := exampleP()
	d, m := must(New(p)), newMirror(p)
	held := roomy(some(p, 8))
	for _, a := range places(p) {
		checkWrite(t, d, m, a.put(held))
		held[3]++
	}
	check(t, d, m)
	spoil(held)
	check(t, d, m)
}

// roomyImage is an image whose list and slots have spare room.
func roomyImage(m api.Image) api.Image {
	made := api.Image{P: m.P}
	for _, held := range m.Slots {
		made.Slots = append(made.Slots, roomy(held))
	}
	made.Slots = append(made.Slots, filled(3, 66))[:len(m.Slots)]
	return made
}

func TestP8_6OfOnlyReadsAndKeeps(t *testing.T) {
	for _, p := range few() {
		for _, was := range patterns(p) {
			m := roomyImage(was)
			d, want := must(Of(m)), mirrorOf(was)
			checkWrite(t, d, want, series(p, 9)...)
			checkWipe(t, d, want, 0)
			for i, held := range m.Slots {
				if !untouched(held, was.Slots[i]) {
					t.Fatalf("%v: Of, or a later call, changes the image", p)
				}
				spoil(held)
				m.Slots[i] = nil
			}
			if !bytes.Equal(m.Slots[:len(was.Slots)+1][len(was.Slots)], filled(3, 66)) {
				t.Fatalf("%v: Of, or a later call, changes the spare room of the image", p)
			}
			check(t, d, want)
		}
	}
}

func TestP8_6RefusedImagesAreOnlyRead(t *testing.T) {
	for _, p := range few() {
		was := patterns(p)[1]
		was.Slots[len(was.Slots)-1] = filled(5, 1)
		m := roomyImage(was)
		if _, err := Of(m); err != api.ErrImage {
			t.Fatalf("Of is %d", err)
		}
		for i, held := range m.Slots {
			if !untouched(held, was.Slots[i]) {
				t.Fatalf("%v: Of changes an image that it refuses", p)
			}
		}
	}
}

func TestP8_6OneSlotsBytesInAllOfAnImage(t *testing.T) {
	p := exampleP()
	held := some(p, 8)
	m := api.Image{P: p, Slots: slices.Repeat([][]byte{held}, 48)}
	d, want := must(Of(m)), mirrorOf(m)
	checkWrite(t, d, want, place{1, 1, 1}.put(some(p, 9)))
	spoil(held)
	check(t, d, want)
	got := imageOf(t, d)
	spoil(got.Slots[5])
	for i := range got.Slots {
		if a := places(p)[i]; i != 5 && !bytes.Equal(got.Slots[i], want.held[a]) {
			t.Fatalf("two slots of an image share memory: 5 and %d", i)
		}
	}
}

func TestP8_6AnswersAreNewMemory(t *testing.T) {
	for _, p := range few() {
		d, want := made(t, p)
		checkWipe(t, d, want, 0)
		checkWipe(t, d, want, p.K+p.R-1)
		checkWrite(t, d, want, series(p, 9)...)
		second := imageOf(t, d)
		first := imageOf(t, d)
		for i, held := range first.Slots {
			spoil(held)
			first.Slots[i] = filled(1, 1)
		}
		check(t, d, want)
		for _, a := range places(p) {
			held, _ := d.Read(a.drive, a.row, a.slot)
			spoil(held)
		}
		wiped := d.Wiped()
		for i := range wiped {
			wiped[i] = 99
		}
		check(t, d, want)
		for i, a := range places(p) {
			if !bytes.Equal(second.Slots[i], want.held[a]) {
				t.Fatalf("%v: two images share memory", p)
			}
		}
	}
}

func TestP8_6SlotsOfAnImageApart(t *testing.T) {
	for _, p := range few() {
		m := patterns(p)[1]
		got := imageOf(t, must(Of(m)))
		for i := range got.Slots {
			spoil(got.Slots[i])
			spoil(got.Slots[i]) // twice is as it was, but for who else sees it
			got.Slots[i] = append(got.Slots[i], 9, 9, 9)
			for j := range i {
				if !bytes.Equal(got.Slots[j][:size(p)], m.Slots[j]) {
					t.Fatalf("%v: the slots %d and %d of an image share memory", p, i, j)
				}
			}
		}
		for i := range got.Slots {
			if !bytes.Equal(got.Slots[i][:size(p)], m.Slots[i]) {
				t.Fatalf("%v: the spare room of a slot is another's memory", p)
			}
		}
	}
}

func TestP8_6LaterCallsChangeNoAnswer(t *testing.T) {
	for _, p := range few() {
		d, m := made(t, p)
		checkWipe(t, d, m, 0)
		was := mirrorOf(imageOf(t, d))
		image, wiped := imageOf(t, d), d.Wiped()
		held, _ := d.Read(p.K+p.R-1, p.Rows-1, 1)
		want := bytes.Clone(held)
		d.Write(place{p.K + p.R - 1, p.Rows - 1, 1}.put(some(p, 77)))
		d.Write(series(p, 20)...)
		for drive := range p.K + p.R {
			d.Wipe(drive)
		}
		d.Whole()
		if !bytes.Equal(held, want) || !slices.Equal(wiped, []int{0}) {
			t.Fatalf("%v: a later call changes what Read or Wiped answered", p)
		}
		for i, a := range places(p) {
			if !bytes.Equal(image.Slots[i], was.held[a]) {
				t.Fatalf("%v: a later call changes what Image answered", p)
			}
		}
	}
}

func TestP8_6AnAnswerHandedIn(t *testing.T) {
	p := exampleP()
	d, m := made(t, p)
	held, _ := d.Read(0, 0, 0)
	checkWrite(t, d, m, place{1, 1, 1}.put(held))
	spoil(held)
	check(t, d, m)
	image := imageOf(t, d)
	twin, want := must(Of(image)), mirrorOf(image)
	for _, slot := range image.Slots {
		spoil(slot)
	}
	check(t, d, m)
	check(t, twin, want)
	d.Wipe(0)
	twin.Write(place{2, 2, 1}.put(some(p, 3)))
	want.write(place{2, 2, 1}.put(some(p, 3)))
	check(t, twin, want)
}

func TestP8_7SeveralIsEach(t *testing.T) {
	for _, p := range few() {
		for seed := range 60 {
			throw := dice(seed)
			all, wrong := places(p), wrongPuts(p)
			var l []api.Put
			for i := range throw.below(12) {
				x := all[throw.below(len(all))].put(some(p, i))
				if throw.below(8) == 0 {
					x = wrong[throw.below(len(wrong))]
				}
				l = append(l, x)
			}
			together, each := must(New(p)), must(New(p))
			if cut := throw.below(20); cut < 12 {
				together.Cut(cut)
				each.Cut(cut)
			}
			got, want := together.Write(l...), api.OK
			for i := 0; i < len(l) && want == api.OK; i++ {
				want = each.Write(l[i])
			}
			if got != want || together.Off() != each.Off() || together.Writes() != each.Writes() {
				t.Fatalf("%v: Write of %d is %d, of each %d", p, len(l), got, want)
			}
			checkHeld(t, together, mirrorOf(imageOf(t, each)))
		}
	}
}

// happens does one thing to a disk and to its mirror, as dice fall.
func happens(t *testing.T, throw *dice, d *Disk, m *mirror) {
	t.Helper()
	n := m.p.K + m.p.R
	switch throw.below(12) {
	case 0:
		checkWipe(t, d, m, throw.below(n+2)-1)
	case 1:
		by := throw.below(9) - 1
		if got, want := d.Cut(by), m.cutBy(by); got != want {
			t.Fatalf("Cut(%d) is %d, want %d", by, got, want)
		}
	case 2, 3:
		d.On()
		m.on()
	case 4:
		d.Whole()
		clear(m.wiped)
	default:
		var l []api.Put
		for range throw.below(4) {
			a := place{throw.below(n+1) - throw.below(20)/19, throw.below(m.p.Rows), throw.below(2)}
			l = append(l, a.put(some(m.p, throw.below(1<<16))))
		}
		checkWrite(t, d, m, l...)
	}
}

func TestP8_7WhateverHappens(t *testing.T) {
	for _, p := range few() {
		for seed := range 20 {
			throw, other := dice(seed), dice(seed)
			d, m := must(New(p)), newMirror(p)
			twin, also := must(New(p)), newMirror(p)
			for range 40 {
				happens(t, &throw, d, m)
				check(t, d, m)
				happens(t, &other, twin, also)
				check(t, twin, m)
			}
		}
	}
}

func TestP8_7TwoDisksApart(t *testing.T) {
	p := exampleP()
	one, m := made(t, p)
	other, want := made(t, p)
	checkWipe(t, one, m, 0)
	checkWrite(t, one, m, series(p, 9)...)
	turnOff(t, one, m)
	check(t, other, want)
	check(t, one, m)
}

func TestP8_7WhatWasWrittenIsRead(t *testing.T) {
	for _, p := range few() {
		all := places(p)
		for i, a := range all {
			d := must(New(p))
			want := some(p, i)
			d.Write(a.put(want))
			for j, b := range all {
				if j != i {
					d.Write(b.put(some(p, j+7)))
				}
			}
			for drive := range p.K + p.R {
				if drive != a.drive {
					d.Wipe(drive)
				}
			}
			d.Cut(0)
			d.Write(a.put(some(p, i+1)))
			d.On()
			d.Whole()
			if held, err := d.Read(a.drive, a.row, a.slot); err != api.OK || !bytes.Equal(held, want) {
				t.Fatalf("%v: what was written to %v is read as %v, %d", p, a, held, err)
			}
		}
	}
}

func TestP8_7CutByExactlyN(t *testing.T) {
	for _, p := range few() {
		for n := range 30 {
			d := must(New(p))
			d.Cut(n)
			wrong := wrongPuts(p)
			for i := range 60 {
				d.Write(wrong[i%len(wrong)])
				d.Read(0, 0, 0)
				d.Write()
				d.Write(series(p, 1+i%3)...)
			}
			if d.Writes() != n || !d.Off() {
				t.Fatalf("%v: cut by %d, %d are made, Off %t", p, n, d.Writes(), d.Off())
			}
		}
	}
}
