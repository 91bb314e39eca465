package object

import (
	"bytes"
	"math"
	"slices"
	"testing"

	"twoslot/api"
)

const spare = 20 // places behind the end of what is roomy

// roomy has spare room, in which bytes stand that nobody may change.
func roomy(b []byte) []byte {
	return append(bytes.Clone(b), filled(spare, 77)...)[:len(b)]
}

// roomyImage is an image all parts of which have spare room.
func roomyImage(k known) api.Image {
	m := k.image()
	many := len(m.Slots)
	for i := range m.Slots {
		m.Slots[i] = roomy(m.Slots[i])
	}
	m.Slots = append(m.Slots, slices.Repeat([][]byte{filled(spare, 77)}, spare)...)[:many]
	return m
}

// untouched tells whether a roomy image is as it was, its spare room with it.
func untouched(m api.Image, k known) bool {
	was := k.image()
	if m.P != was.P || len(m.Slots) != len(was.Slots) {
		return false
	}
	for i, b := range m.Slots {
		if len(b) != len(was.Slots[i]) || !bytes.Equal(b[:len(b)+spare], append(bytes.Clone(was.Slots[i]), filled(spare, 77)...)) {
			return false
		}
	}
	behind := m.Slots[len(m.Slots) : len(m.Slots)+spare]
	return slices.EqualFunc(behind, slices.Repeat([][]byte{filled(spare, 77)}, spare), bytes.Equal)
}

// spoil writes behind the end of bytes, and into all of them, their spare room with them.
func spoil(b []byte) {
	_ = append(b, 1, 2, 3)
	b = b[:cap(b)]
	for i := range b {
		b[i] ^= 0xff
	}
}

func spoilImage(m api.Image) {
	for i := range m.Slots {
		spoil(m.Slots[i])
		m.Slots[i] = filled(3, 3)
	}
}

// answers are what all calls answer of a row.
type answers struct {
	length int
	lists  [][]byte
	errs   []api.Errno
}

// asked makes all calls, with some parts.
func asked(m api.Image, row int, parts []part) answers {
	var a answers
	length, err := Length(m, row)
	a.length, a.errs = length, append(a.errs, err)
	b, err := Bytes(m, row)
	a.lists, a.errs = append(a.lists, b), append(a.errs, err)
	for _, of := range parts {
		b, err := Part(m, row, of.off, of.n)
		a.lists, a.errs = append(a.lists, b), append(a.errs, err)
	}
	return a
}

// wanted are the answers that must be of an object.
func wanted(o object, parts []part) answers {
	a := answers{length: len(o.bytes), lists: [][]byte{bytes.Clone(o.bytes)}, errs: make([]api.Errno, len(parts)+2)}
	for _, of := range parts {
		a.lists = append(a.lists, cut(o.bytes, of))
	}
	return a
}

func (a answers) same(b answers) bool {
	return a.length == b.length && slices.EqualFunc(a.lists, b.lists, bytes.Equal) && slices.Equal(a.errs, b.errs)
}

// shallowAndDeep are lengths of both depths, where there are both.
func shallowAndDeep(p api.Params) []int {
	m := measured(p)
	direct := min(m.most, m.direct*m.width)
	return slices.Compact([]int{0, 1, m.width, m.width + 1, direct, min(m.most, direct+1), m.most})
}

// remembering calls visit with images that have an object in the row 3: of both depths, and of no stripes, with others beside it.
func remembering(visit func(k known, o object, parts []part)) {
	for _, p := range few() {
		p.Rows = min(p.Rows, 20) // great images are the same, but slow
		for i, length := range shallowAndDeep(p) {
			k, o := blank(p).built(3, 5, length, i)
			visit(k, o, someParts(p, length))
			visit(k.whole(3, 1, 2, 4, descBytes(p, api.Desc{})), o, []part{{0, 1}, {0, length}, {length / 2, length / 2}})
		}
	}
}

func TestP18_3OnlyReads(t *testing.T) {
	t.Parallel()
	remembering(func(k known, _ object, _ []part) {
		m := roomyImage(k)
		parts := []part{{0, 1}, {1, 70}, {0, -1}, {math.MinInt, 1}, {math.MaxInt, math.MaxInt}}
		for _, by := range []api.Params{k.p, {}, {K: 2, R: 1, Cell: 16, Rows: 9}} {
			for _, slots := range [][][]byte{m.Slots, m.Slots[1:], m.Slots[:len(m.Slots)+1], nil} {
				for _, row := range []int{0, 3, k.p.Rows - 1, k.p.Rows, -1, math.MinInt, math.MaxInt} {
					asked(api.Image{P: by, Slots: slots}, row, parts)
				}
			}
		}
		if !untouched(m, k) {
			t.Fatalf("%v: a call changes the image", k.p)
		}
	})
}

// Calls that are refused in the midst, by the descriptor, a leaf or a stripe, change nothing either, and tell nothing of what was read.
func TestP18_3RefusedCallsOnlyRead(t *testing.T) {
	for _, p := range deep() {
		k, o := leafy(p)
		leaf, stripe := o.leaves[len(o.leaves)-1], o.stripes[len(o.stripes)-1]
		for _, wrong := range []known{
			k.lost(stripe.Row),
			k.lost(leaf.Row),
			k.whole(leaf.Row, 0, 1, leaf.Version, filled(measured(p).width, 9)),
			k.whole(3, 0, 2, 5, filled(measured(p).width, 9)),
			k.lost(3),
		} {
			m := roomyImage(wrong)
			a := asked(m, 3, []part{{0, len(o.bytes)}, {1, len(o.bytes) - 1}})
			if slices.ContainsFunc(a.lists, func(b []byte) bool { return b != nil }) || slices.Contains(a.errs[1:], api.OK) {
				t.Fatalf("%v: the errors are %v", k.p, a.errs)
			}
			if !untouched(m, wrong) {
				t.Fatalf("%v: a call that is refused changes the image", k.p)
			}
		}
	}
}

func TestP18_3LaterWritesIntoWhatWasHandedIn(t *testing.T) {
	remembering(func(k known, o object, parts []part) {
		m := roomyImage(k)
		a := asked(m, 3, parts)
		spoilImage(m)
		if !a.same(wanted(o, parts)) {
			t.Fatalf("%v: a write into the image changes an answer of %d bytes", k.p, len(o.bytes))
		}
	})
}

func TestP18_3WritesIntoAnswers(t *testing.T) {
	remembering(func(k known, o object, parts []part) {
		m := roomyImage(k)
		kept, a := asked(m, 3, parts), asked(m, 3, parts)
		for _, b := range a.lists {
			spoil(b)
		}
		if !untouched(m, k) {
			t.Fatalf("%v: a write into an answer changes the image", k.p)
		}
		if later := asked(m, 3, parts); !kept.same(wanted(o, parts)) || !later.same(wanted(o, parts)) {
			t.Fatalf("%v: a write into an answer of %d bytes changes an earlier one, or a later one", k.p, len(o.bytes))
		}
	})
}

// A write into one answer, and behind its end, changes no other one, be they parts of the same bytes.
func TestP18_3AnswersApart(t *testing.T) {
	t.Parallel()
	remembering(func(k known, o object, parts []part) {
		a, want := asked(k.image(), 3, parts), wanted(o, parts)
		for i := range a.lists {
			spoil(a.lists[i])
			for j := range want.lists[i] {
				want.lists[i][j] ^= 0xff
			}
			if !a.same(want) {
				t.Fatalf("%v: a write into the answer %d changes another one", k.p, i)
			}
		}
	})
}

// What is put behind the end of one answer stands in no other one, nor in the image.
func TestP18_3Appends(t *testing.T) {
	remembering(func(k known, o object, parts []part) {
		m := roomyImage(k)
		a := asked(m, 3, parts)
		longer := make([][]byte, len(a.lists))
		for i, b := range a.lists {
			longer[i] = append(b, filled(40, byte(i+1))...)
		}
		for i, b := range longer {
			if !bytes.Equal(b[len(b)-40:], filled(40, byte(i+1))) {
				t.Fatalf("%v: two answers share the room behind their ends", k.p)
			}
		}
		if !a.same(wanted(o, parts)) || !untouched(m, k) {
			t.Fatalf("%v: an append to an answer changes another one, or the image", k.p)
		}
	})
}

// An image whose slots stand within one memory is read likewise, and none of it is changed.
func TestP18_3ImagesWithinOneMemory(t *testing.T) {
	remembering(func(k known, o object, parts []part) {
		m := k.image()
		drives := slices.Concat(m.Slots...)
		was, from := bytes.Clone(drives), 0
		for i, b := range m.Slots {
			m.Slots[i] = drives[from : from+len(b)]
			from += len(b)
		}
		a := asked(m, 3, parts)
		if !a.same(wanted(o, parts)) {
			t.Fatalf("%v: an image within one memory is answered otherwise", k.p)
		}
		for _, b := range a.lists {
			spoil(b)
		}
		if !bytes.Equal(drives, was) {
			t.Fatalf("%v: a call, or a write into an answer, changes the drives", k.p)
		}
	})
}

// Slots without bytes are blank, whether they are nil or not, and whatever stands behind their end.
func TestP18_3BlankSlots(t *testing.T) {
	remembering(func(k known, o object, parts []part) {
		m := k.image()
		full := slices.Clone(m.Slots[slices.IndexFunc(m.Slots, func(b []byte) bool { return len(b) > 0 })])
		for i, b := range m.Slots {
			if len(b) == 0 {
				m.Slots[i] = full[:0]
			}
		}
		if !asked(m, 3, parts).same(wanted(o, parts)) {
			t.Fatalf("%v: blank slots that are not nil are answered otherwise", k.p)
		}
	})
}

// What was asked earlier changes no answer.
func TestP18_3NothingIsKept(t *testing.T) {
	for range 2 {
		other := example().image()
		remembering(func(k known, o object, parts []part) {
			tells(t, k.image(), 3, o)
			hasBytes(t, other, 3, rising(40), someParts(exampleP(), 40))
			refuses(t, blank(k.p).image(), 3, api.ErrLost)
			refuses(t, api.Image{}, 3, api.ErrParams)
			tells(t, k.image(), 3, o)
		})
	}
}
