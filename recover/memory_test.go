package recover

import (
	"bytes"
	"slices"
	"testing"

	"twoslot/api"
)

const spare = 20 // places behind the end of what is roomy

// roomy has spare room, in which bytes stand that nobody may change.
func roomy(b []byte) []byte {
	return append(bytes.Clone(b), filled(spare, 77)...)[:len(b)]
}

// roomyImage is an image all parts of which have spare room.
func roomyImage(k known) api.Image {
	m := k.image()
	many := len(m.Slots)
	for i := range m.Slots {
		m.Slots[i] = roomy(m.Slots[i])
	}
	m.Slots = append(m.Slots, slices.Repeat([][]byte{filled(spare, 77)}, spare)...)[:many]
	return m
}

// untouched tells whether a roomy image is as it was, its spare room with it.
func untouched(m api.Image, k known) bool {
	was := k.image()
	if m.P != was.P || len(m.Slots) != len(was.Slots) {
		return false
	}
	for i, b := range m.Slots {
		if len(b) != len(was.Slots[i]) || !bytes.Equal(b[:len(b)+spare], append(bytes.Clone(was.Slots[i]), filled(spare, 77)...)) {
			return false
		}
	}
	behind := m.Slots[len(m.Slots) : len(m.Slots)+spare]
	return slices.EqualFunc(behind, slices.Repeat([][]byte{filled(spare, 77)}, spare), bytes.Equal)
}

// spoilBytes writes behind the end of bytes, and into all of them, their spare room with them.
func spoilBytes(b []byte) {
	_ = append(b, 1, 2, 3)
	b = b[:cap(b)]
	for i := range b {
		b[i] ^= 0xff
	}
}

func spoilImage(m api.Image) {
	for i := range m.Slots {
		spoilBytes(m.Slots[i])
		m.Slots[i] = filled(3, 3)
	}
}

// spoilPuts writes into raw writes, and behind their end.
func spoilPuts(l []api.Put) {
	for _, x := range l {
		spoilBytes(x.Bytes)
	}
	_ = append(l, api.Put{Drive: -1, Bytes: []byte{1}})
	l = l[:cap(l)]
	for i := range l {
		l[i] = api.Put{Drive: -2, Row: -2, Slot: -2, Bytes: []byte{2}}
	}
}

// wanted are the raw writes that Plan must tell.
func wanted(k known) []api.Put {
	l, _ := k.wantPlan()
	for i := range l {
		l[i].Bytes = bytes.Clone(l[i].Bytes)
	}
	return l
}

// remembering calls visit with images that have something to be finished, if there is parity.
func remembering(t *testing.T, visit func(k known)) {
	t.Helper()
	somes := 0
	for _, p := range few() {
		if p.Rows > 100 && p.K > 4 {
			continue // great images are the same, but slow
		}
		all := []known{crashed(p, 7).known, directory(p, 8).known}
		p.Rows = min(p.Rows, 30)
		for seed := range 4 {
			all = append(all, standing(p, seed+5).known)
		}
		if p.R > 0 {
			all = append(all, whole(p, 6).without(0))
		}
		for _, k := range all {
			if len(wanted(k)) > 1 {
				somes++
			}
			visit(k)
		}
	}
	if somes < 10 {
		t.Fatalf("only %d images have something to be finished", somes)
	}
}

func TestP24_3OnlyReads(t *testing.T) {
	t.Parallel()
	remembering(t, func(k known) {
		m := roomyImage(k)
		for _, by := range []api.Params{k.p, {}, {K: 2, R: 1, Cell: 16, Rows: 9}} {
			for _, slots := range [][][]byte{m.Slots, m.Slots[1:], m.Slots[:len(m.Slots)+1], nil} {
				now := api.Image{P: by, Slots: slots}
				Plan(now)
				Done(now)
			}
		}
		if !untouched(m, k) {
			t.Fatalf("%v: a call changes the image", k.p)
		}
	})
}

// Calls that are refused in the midst change nothing either, and tell nothing of what was read.
func TestP24_3RefusedCallsOnlyRead(t *testing.T) {
	t.Parallel()
	for _, p := range few() {
		its := crashed(p, 8)
		for _, at := range everywhere() {
			for _, way := range at.ways(its.p) {
				k := way.make(its, at.row(its))
				m := roomyImage(k)
				answersWith(t, m, nil, way.err, at, way.what)
				if !untouched(m, k) {
					t.Fatalf("%v: a call that is refused changes the image", p)
				}
			}
			if its.p.K > 4 {
				break // the others are the same, but slow
			}
		}
	}
}

// What is handed in and wrong is not changed either.
func TestP24_3WrongInputsAreOnlyRead(t *testing.T) {
	for _, p := range few() {
		if p.Rows > 20 {
			continue // the images are great
		}
		for _, m := range wrongImages(p, standing(p, 4).image()) {
			was := make([][]byte, len(m.Slots))
			for i := range m.Slots {
				was[i] = bytes.Clone(m.Slots[i])
			}
			Plan(m)
			Done(m)
			if !slices.EqualFunc(m.Slots, was, bytes.Equal) {
				t.Fatalf("%v: a call changes an image that may not be", p)
			}
		}
	}
}

func TestP24_3LaterWritesIntoWhatWasHandedIn(t *testing.T) {
	remembering(t, func(k known) {
		m := roomyImage(k)
		l, err := Plan(m)
		spoilImage(m)
		if err != api.OK || !samePuts(l, wanted(k)) {
			t.Fatalf("%v: behind a write into the image the answer is %s, want %s", k.p, places(l), places(wanted(k)))
		}
	})
}

func TestP24_3WritesIntoAnswers(t *testing.T) {
	t.Parallel()
	remembering(t, func(k known) {
		m, want := roomyImage(k), wanted(k)
		kept, _ := Plan(m)
		l, _ := Plan(m)
		spoilPuts(l)
		if !untouched(m, k) {
			t.Fatalf("%v: a write into an answer changes the image", k.p)
		}
		if later, _ := Plan(m); !samePuts(kept, want) || !samePuts(later, want) {
			t.Fatalf("%v: a write into an answer changes an earlier one to %s, a later one to %s", k.p, places(kept), places(later))
		}
		answersWith(t, m, want, api.OK, "behind a write into an answer")
	})
}

// A write into the bytes of one raw write, and behind their end, changes no other one.
func TestP24_3RawWritesApart(t *testing.T) {
	t.Parallel()
	remembering(t, func(k known) {
		m, want := k.image(), wanted(k)
		for i := range want {
			l, _ := Plan(m)
			spoilBytes(l[i].Bytes)
			others, wants := slices.Delete(l, i, i+1), slices.Delete(slices.Clone(want), i, i+1)
			if !samePuts(others, wants) {
				t.Fatalf("%v: a write into the raw write %d makes %s, want %s", k.p, i, places(others), places(wants))
			}
			if i > 20 {
				break
			}
		}
		if !sameImage(m, k.image()) {
			t.Fatalf("%v: a write into an answer changes the image", k.p)
		}
	})
}

// What is put behind the end of one list stands in no other one, nor in the image.
func TestP24_3Appends(t *testing.T) {
	t.Parallel()
	remembering(t, func(k known) {
		m := roomyImage(k)
		l, _ := Plan(m)
		second, _ := Plan(m)
		longer, other := append(l, api.Put{Row: -1}), append(second, api.Put{Row: -2})
		var all [][]byte
		for i, x := range l {
			all = append(all, append(x.Bytes, byte(i), byte(i>>8)))
		}
		for i, b := range all {
			if tail := b[len(b)-2:]; tail[0] != byte(i) || tail[1] != byte(i>>8) {
				t.Fatalf("%v: two raw writes share the room behind their bytes", k.p)
			}
		}
		if longer[len(l)].Row != -1 || other[len(l)].Row != -2 || !samePuts(l, wanted(k)) || !samePuts(second, wanted(k)) || !untouched(m, k) {
			t.Fatalf("%v: an append to an answer changes another one, or the image", k.p)
		}
	})
}

// The image's slots may lie within one memory: what is told shares none with it.
func TestP24_3ImagesWithinOneMemory(t *testing.T) {
	t.Parallel()
	remembering(t, func(k known) {
		m := k.image()
		drives := slices.Concat(m.Slots...)
		was, from := bytes.Clone(drives), 0
		for i, b := range m.Slots {
			m.Slots[i] = drives[from : from+len(b)]
			from += len(b)
		}
		answersWith(t, m, wanted(k), api.OK, "within one memory")
		l, _ := Plan(m)
		for i := range drives {
			drives[i] ^= 0xff
		}
		if !samePuts(l, wanted(k)) {
			t.Fatalf("%v: a write into the drives changes an answer", k.p)
		}
		for i := range drives {
			drives[i] ^= 0xff
		}
		spoilPuts(l)
		if !bytes.Equal(drives, was) {
			t.Fatalf("%v: a call, or a write into an answer, changes the drives", k.p)
		}
	})
}

// Slots without bytes are blank, whether they are nil or not, and whatever stands behind their end.
func TestP24_3BlankSlots(t *testing.T) {
	t.Parallel()
	remembering(t, func(k known) {
		m := k.image()
		full := slices.Clone(m.Slots[slices.IndexFunc(m.Slots, func(b []byte) bool { return len(b) > 0 })])
		for i, b := range m.Slots {
			if len(b) == 0 {
				m.Slots[i] = full[:0]
			}
		}
		answersWith(t, m, wanted(k), api.OK, "blank slots that are not nil")
	})
}

// What was asked earlier changes no answer, nor what was refused.
func TestP24_3NothingIsKept(t *testing.T) {
	t.Parallel()
	other := crashed(exampleP(), 31).known
	remembering(t, func(k known) {
		for range 2 {
			answersWith(t, k.image(), wanted(k), api.OK, "asked again")
			answersWith(t, other.image(), wanted(other), api.OK, "another one, asked again")
			answersWith(t, blank(k.p).image(), nil, api.ErrLost, "blank drives between")
			answersWith(t, api.Image{}, nil, api.ErrParams, "no image between")
		}
	})
}
