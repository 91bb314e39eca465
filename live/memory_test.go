package live

import (
	"bytes"
	"slices"
	"testing"

	"twoslot/api"
)

const spare = 20 // places behind the end of what is roomy

// roomy has spare room, in which bytes stand that nobody may change.
func roomy(b []byte) []byte {
	return append(bytes.Clone(b), filled(spare, 77)...)[:len(b)]
}

// roomyImage is an image all parts of which have spare room.
func roomyImage(k known) api.Image {
	m := k.image()
	many := len(m.Slots)
	for i := range m.Slots {
		m.Slots[i] = roomy(m.Slots[i])
	}
	m.Slots = append(m.Slots, slices.Repeat([][]byte{filled(spare, 77)}, spare)...)[:many]
	return m
}

// untouched tells whether a roomy image is as it was, its spare room with it.
func untouched(m api.Image, k known) bool {
	was := k.image()
	if m.P != was.P || len(m.Slots) != len(was.Slots) {
		return false
	}
	for i, b := range m.Slots {
		if len(b) != len(was.Slots[i]) || !bytes.Equal(b[:len(b)+spare], append(bytes.Clone(was.Slots[i]), filled(spare, 77)...)) {
			return false
		}
	}
	behind := m.Slots[len(m.Slots) : len(m.Slots)+spare]
	return slices.EqualFunc(behind, slices.Repeat([][]byte{filled(spare, 77)}, spare), bytes.Equal)
}

// spoil writes behind the end of a list, and into all of it, its spare room with it.
func spoil[T any](l []T, change func(was T) T) {
	if len(l) > 0 {
		_ = append(l, change(l[0]), change(l[0]))
	}
	l = l[:cap(l)]
	for i := range l {
		l[i] = change(l[i])
	}
}

func spoilRows(l []int) {
	spoil(l, func(row int) int { return -row - 5 })
}

func spoilLives(l []api.Live) {
	spoil(l, func(its api.Live) api.Live {
		return api.Live{Row: -its.Row - 5, Kind: its.Kind + 5, Version: its.Version ^ 77}
	})
}

func spoilEntries(l []api.Entry) {
	spoil(l, func(x api.Entry) api.Entry { return api.Entry{Name: x.Name + "z", Row: -x.Row - 5} })
}

func spoilImage(m api.Image) {
	for i := range m.Slots {
		spoil(m.Slots[i], func(b byte) byte { return b ^ 0xff })
		m.Slots[i] = filled(3, 3)
	}
}

// answers are what all calls answer.
type answers struct {
	buckets, descs, rows []int
	lives                []api.Live
	entries              [buckets][]api.Entry
	finds                [4]found
	next                 int
	whole                bool
	errs                 []api.Errno
}

// asked makes all calls.
func asked(m api.Image) answers {
	var a answers
	rows, err1 := Buckets(m)
	descs, err2 := Descs(m)
	lives, err3 := Stripes(m)
	all, err4 := Rows(m)
	next, err5 := Next(m)
	whole, err6 := Whole(m)
	a.buckets, a.descs, a.lives, a.rows, a.next, a.whole = rows, descs, lives, all, next, whole
	a.errs = []api.Errno{err1, err2, err3, err4, err5, err6}
	for bucket := range buckets {
		l, err := Entries(m, bucket)
		a.entries[bucket], a.errs = l, append(a.errs, err)
	}
	for i, name := range []string{"d", "e", "n", "o"} { // the last two are in no directory
		a.finds[i] = foundIn(m, name)
	}
	return a
}

// wanted are the answers that must be.
func (its stood) wanted() answers {
	lives := its.stripes()
	a := answers{buckets: its.buckets, descs: its.descs(), lives: lives, rows: rowsOf(its.p, lives), next: its.wantNext(), errs: make([]api.Errno, 10)}
	a.whole, _ = its.wantWhole()
	for bucket, l := range its.entries {
		a.entries[bucket] = l
	}
	for i, name := range []string{"d", "e", "n", "o"} {
		a.finds[i] = its.wantFind(name)
	}
	return a.copied()
}

// copied is a copy that shares nothing.
func (a answers) copied() answers {
	a.buckets, a.descs, a.rows = slices.Clone(a.buckets), slices.Clone(a.descs), slices.Clone(a.rows)
	a.lives = slices.Clone(a.lives)
	for bucket := range a.entries {
		a.entries[bucket] = slices.Clone(a.entries[bucket])
	}
	return a
}

func (a answers) same(b answers) bool {
	for bucket := range a.entries {
		if !slices.Equal(a.entries[bucket], b.entries[bucket]) {
			return false
		}
	}
	lists := slices.Equal(a.buckets, b.buckets) && slices.Equal(a.descs, b.descs) && slices.Equal(a.rows, b.rows) && slices.Equal(a.lives, b.lives)
	return lists && a.finds == b.finds && a.next == b.next && a.whole == b.whole && slices.Equal(a.errs, b.errs)
}

// spoilers write into one list of the answers each.
func spoilers() []func(a answers) {
	all := []func(a answers){
		func(a answers) { spoilRows(a.buckets) },
		func(a answers) { spoilRows(a.descs) },
		func(a answers) { spoilRows(a.rows) },
		func(a answers) { spoilLives(a.lives) },
	}
	for bucket := range buckets {
		all = append(all, func(a answers) { spoilEntries(a.entries[bucket]) })
	}
	return all
}

// remembering calls visit with images that have a directory, some empty, some with leaves.
func remembering(visit func(its stood)) {
	for _, p := range few() {
		if p.Rows > 100 && p.K > 4 {
			continue // great images are the same, but slow
		}
		visit(directory(p, 7))
		p.Rows = min(p.Rows, 30)
		for seed := range 4 {
			visit(standing(p, seed+5))
		}
	}
}

func TestP23_4OnlyReads(t *testing.T) {
	t.Parallel()
	remembering(func(its stood) {
		m := roomyImage(its.known)
		for _, by := range []api.Params{its.p, {}, {K: 2, R: 1, Cell: 16, Rows: 9}} {
			for _, slots := range [][][]byte{m.Slots, m.Slots[1:], m.Slots[:len(m.Slots)+1], nil} {
				now := api.Image{P: by, Slots: slots}
				asked(now)
				Entries(now, -1)
				Entries(now, buckets)
				Find(now, "")
				Find(now, "no such name")
			}
		}
		if !untouched(m, its.known) {
			t.Fatalf("%v: a call changes the image", its.p)
		}
	})
}

// Calls that are refused in the midst change nothing either, and tell nothing of what was read.
func TestP23_4RefusedCallsOnlyRead(t *testing.T) {
	t.Parallel()
	for _, p := range few() {
		its := directory(p, 8)
		for _, at := range places() {
			for _, way := range at.ways(its.p) {
				k := way.make(its, at.row(its))
				m := roomyImage(k)
				if a := asked(m); a.lives != nil || a.rows != nil || a.whole || at.level < 2 && a.descs != nil || at.level == 1 && a.entries[at.bucket] != nil {
					t.Fatalf("%v: with %v %s it tells %v", p, at, way.what, a)
				}
				if !untouched(m, k) {
					t.Fatalf("%v: a call that is refused changes the image", p)
				}
			}
			if its.p.K > 4 {
				break // the others are the same, but slow
			}
		}
	}
}

func TestP23_4LaterWritesIntoWhatWasHandedIn(t *testing.T) {
	remembering(func(its stood) {
		m := roomyImage(its.known)
		a := asked(m)
		spoilImage(m)
		if want := its.wanted(); !a.same(want) {
			t.Fatalf("%v: behind a write into the image the answer is\n%v, want\n%v", its.p, a, want)
		}
	})
}

func TestP23_4WritesIntoAnswers(t *testing.T) {
	t.Parallel()
	remembering(func(its stood) {
		m, want := roomyImage(its.known), its.wanted()
		kept, a := asked(m), asked(m)
		for _, write := range spoilers() {
			write(a)
		}
		if !untouched(m, its.known) {
			t.Fatalf("%v: a write into an answer changes the image", its.p)
		}
		if later := asked(m); !kept.same(want) || !later.same(want) {
			t.Fatalf("%v: a write into an answer changes an earlier one to\n%v, a later one to\n%v, want\n%v", its.p, kept, later, want)
		}
	})
}

// A write into one list of an answer, and behind its end, changes no other one.
func TestP23_4AnswersApart(t *testing.T) {
	t.Parallel()
	remembering(func(its stood) {
		for i := range spoilers() {
			a, want := asked(its.image()), its.wanted()
			spoilers()[i](a)
			spoilers()[i](want)
			if !a.same(want) {
				t.Fatalf("%v: a write into the list %d of the answers makes\n%v, want\n%v", its.p, i, a, want)
			}
		}
	})
}

// What is put behind the end of one list stands in no other one, nor in the image.
func TestP23_4Appends(t *testing.T) {
	t.Parallel()
	remembering(func(its stood) {
		m := roomyImage(its.known)
		a := asked(m)
		rows := [][]int{append(a.buckets, -1), append(a.descs, -2), append(a.rows, -3)}
		lives := append(a.lives, api.Live{Row: -4})
		var entries [buckets][]api.Entry
		for bucket := range buckets {
			entries[bucket] = append(a.entries[bucket], entry("", -5-bucket))
		}
		wrong := lives[len(lives)-1].Row != -4
		for i, l := range rows {
			wrong = wrong || l[len(l)-1] != -1-i
		}
		for i, l := range entries {
			wrong = wrong || l[len(l)-1].Row != -5-i
		}
		if wrong {
			t.Fatalf("%v: two lists of an answer share the room behind their ends", its.p)
		}
		if !a.same(its.wanted()) || !untouched(m, its.known) {
			t.Fatalf("%v: an append to a list of the answers changes another one, or the image", its.p)
		}
	})
}

// Names that are told are the image's no more: a write into its slots changes none, be they all within one memory.
func TestP23_4ImagesWithinOneMemory(t *testing.T) {
	t.Parallel()
	remembering(func(its stood) {
		m := its.image()
		drives := slices.Concat(m.Slots...)
		was, from := bytes.Clone(drives), 0
		for i, b := range m.Slots {
			m.Slots[i] = drives[from : from+len(b)]
			from += len(b)
		}
		a := asked(m)
		want := its.wanted()
		if !a.same(want) {
			t.Fatalf("%v: an image within one memory is answered otherwise", its.p)
		}
		for i := range drives {
			drives[i] ^= 0xff
		}
		if !a.same(want) {
			t.Fatalf("%v: a write into the drives changes an answer", its.p)
		}
		for i := range drives {
			drives[i] ^= 0xff
		}
		for _, write := range spoilers() {
			write(a)
		}
		if !bytes.Equal(drives, was) {
			t.Fatalf("%v: a call, or a write into an answer, changes the drives", its.p)
		}
	})
}

// Slots without bytes are blank, whether they are nil or not, and whatever stands behind their end.
func TestP23_4BlankSlots(t *testing.T) {
	t.Parallel()
	remembering(func(its stood) {
		m := its.image()
		full := slices.Clone(m.Slots[slices.IndexFunc(m.Slots, func(b []byte) bool { return len(b) > 0 })])
		for i, b := range m.Slots {
			if len(b) == 0 {
				m.Slots[i] = full[:0]
			}
		}
		if !asked(m).same(its.wanted()) {
			t.Fatalf("%v: blank slots that are not nil are answered otherwise", its.p)
		}
	})
}

// What was asked earlier changes no answer.
func TestP23_4NothingIsKept(t *testing.T) {
	t.Parallel()
	other := standing(exampleP(), 31)
	remembering(func(its stood) {
		for range 2 {
			a, b := asked(its.image()), asked(other.image())
			refuses(t, blank(its.p).image(), api.ErrLost)
			refuses(t, api.Image{}, api.ErrParams)
			if !a.same(its.wanted()) || !b.same(other.wanted()) {
				t.Fatalf("%v: an earlier call changes an answer", its.p)
			}
		}
	})
}
