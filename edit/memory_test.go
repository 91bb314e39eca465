package edit

import (
	"bytes"
	"slices"
	"testing"

	"twoslot/api"
)

const spare = 20 // places behind the end of what is roomy

// roomy has spare room, in which elements stand that nobody may change.
func roomy[T any](l []T, behind T) []T {
	return append(slices.Clone(l), slices.Repeat([]T{behind}, spare)...)[:len(l)]
}

// roomyAsBefore tells whether a roomy list is as it was, its spare room with it.
func roomyAsBefore[T comparable](l, was []T, behind T) bool {
	return len(l) == len(was) && slices.Equal(l[:len(l)+spare], append(slices.Clone(was), slices.Repeat([]T{behind}, spare)...))
}

// handedIn is what a call is handed, each part of it with spare room.
type handedIn struct {
	k known
	c call
	m api.Image
	// of the call
	free []int
	data []byte
}

func roomyCall(k known, c call) handedIn {
	its := handedIn{k: k, c: c, m: k.image(), free: c.free, data: c.data}
	many := len(its.m.Slots)
	for i := range its.m.Slots {
		its.m.Slots[i] = roomy(its.m.Slots[i], 77)
	}
	its.m.Slots = append(its.m.Slots, slices.Repeat([][]byte{filled(spare, 77)}, spare)...)[:many]
	its.c.free, its.c.data = roomy(c.free, 77), roomy(c.data, 77)
	return its
}

// on makes the call.
func (its handedIn) on() answer { return its.c.on(its.m) }

// untouched tells whether all is as it was.
func (its handedIn) untouched() bool {
	was := its.k.image()
	if its.m.P != was.P || len(its.m.Slots) != len(was.Slots) {
		return false
	}
	for i, b := range its.m.Slots {
		if !roomyAsBefore(b, was.Slots[i], 77) {
			return false
		}
	}
	behind := its.m.Slots[len(its.m.Slots) : len(its.m.Slots)+spare]
	return slices.EqualFunc(behind, slices.Repeat([][]byte{filled(spare, 77)}, spare), bytes.Equal) &&
		roomyAsBefore(its.c.free, its.free, 77) && roomyAsBefore(its.c.data, its.data, 77)
}

// spoil writes behind the end of a list, and into all of it, its spare room with it.
func spoil[T any](l []T, with T) {
	_ = append(l, with, with, with)
	l = l[:cap(l)]
	for i := range l {
		l[i] = with
	}
}

// spoil writes into all that is handed in.
func (its handedIn) spoil() {
	for i := range its.m.Slots {
		spoil(its.m.Slots[i], 5)
		its.m.Slots[i] = filled(3, 3)
	}
	spoil(its.c.free, 5)
	spoil(its.c.data, 5)
}

// copied is an answer in memory of its own.
func (a answer) copied() answer {
	made := answer{taken: slices.Clone(a.taken), given: slices.Clone(a.given), err: a.err}
	for _, x := range a.l {
		x.Bytes = bytes.Clone(x.Bytes)
		made.l = append(made.l, x)
	}
	return made
}

// spoil writes into all lists of an answer.
func (a answer) spoil() {
	for _, x := range a.l {
		spoil(x.Bytes, 5)
	}
	spoil(a.l, api.Put{Drive: 7, Bytes: filled(3, 3)})
	spoil(a.taken, 5)
	spoil(a.given, 5)
}

// remembering calls visit with calls on objects of both depths, that get longer, shorter, stay as long, change nothing, or are refused, each with what must be answered.
func remembering(visit func(its handedIn, want answer)) {
	for i, p := range few() {
		p.Rows = min(p.Rows, 20) // great images are the same, but slow
		m := measured(p)
		for _, length := range shallowAndDeep(p) {
			its := standing(p, 3, length, i)
			for _, to := range []int{0, 1, length, length / 2, min(m.most, length+1), min(m.most, length+m.width), min(m.most, (m.direct+1)*m.width)} {
				for _, c := range []call{
					its.toSet(to, to/3, some(to-to/3, to)), its.toSet(to, to, nil), its.toWhole(some(to, 9)), its.toWhole(its.bytes[:min(to, length)]),
					set(3, its.free[:min(1, len(its.free))], newest+1, to, to/2, some(to-to/2, 3)), set(3, its.free, newest, to, to, nil), set(2, its.free, newest+1, to, to, nil), set(3, its.free, newest+1, to, to, []byte{1}),
				} {
					visit(roomyCall(its.known, c), its.wants(c))
				}
			}
		}
	}
}

func TestP19_4OnlyReads(t *testing.T) {
	t.Parallel()
	remembering(func(its handedIn, want answer) {
		holds(t, its.c, its.on(), want)
		if !its.untouched() {
			t.Fatalf("%v: %v changes what is handed in", its.k.p, its.c)
		}
	})
}

func TestP19_4WrongInputsAreOnlyRead(t *testing.T) {
	t.Parallel()
	for _, p := range few() {
		if slow(p) {
			continue // the images are great
		}
		for _, depth := range depths(p) {
			k, o, calls := subjects(p, depth)
			for _, c := range calls {
				for _, list := range ordered(k.p, o, c) {
					for i, wrong := range list {
						if i%5 > 0 {
							continue
						}
						c := c
						wrong.call(&c)
						its := roomyCall(wrong.image(k, o), c)
						if a := its.on(); a.err != wrong.err || !its.untouched() {
							t.Fatalf("%v: %v is %d, and changes what is handed in: %s", p, c, a.err, wrong.what)
						}
						its.m.Slots = its.m.Slots[:len(its.m.Slots)+1]
						if a := its.on(); a.err != api.ErrImage {
							t.Fatalf("%v: an image with a slot more is %d", p, a.err)
						}
						if its.m.Slots = its.m.Slots[:len(its.m.Slots)-1]; !its.untouched() {
							t.Fatalf("%v: an image that may not be is changed", p)
						}
					}
				}
			}
		}
	}
}

func TestP19_4LaterWritesIntoWhatWasHandedIn(t *testing.T) {
	t.Parallel()
	remembering(func(its handedIn, want answer) {
		want = want.copied()
		a := its.on()
		its.spoil()
		holds(t, its.c, a, want)
	})
}

func TestP19_4WritesIntoAnswers(t *testing.T) {
	t.Parallel()
	remembering(func(its handedIn, want answer) {
		kept, a := its.on(), its.on()
		a.spoil()
		if !its.untouched() {
			t.Fatalf("%v: a write into an answer changes what was handed in", its.k.p)
		}
		holds(t, its.c, kept, want)
		holds(t, its.c, its.on(), want)
	})
}

// A write into one list of an answer, and behind its end, changes no other list of it.
func TestP19_4ListsApart(t *testing.T) {
	t.Parallel()
	remembering(func(its handedIn, want answer) {
		a, want := its.on(), want.copied()
		for i := range a.l {
			spoil(a.l[i].Bytes, 5)
			copy(want.l[i].Bytes, filled(len(want.l[i].Bytes), 5))
			if i%7 == 0 || i > len(a.l)-3 {
				holds(t, its.c, a, want)
			}
		}
		spoil(a.taken, 5)
		spoil(want.taken, 5)
		holds(t, its.c, a, want)
		spoil(a.given, 6)
		spoil(want.given, 6)
		holds(t, its.c, a, want)
		spoil(a.l, api.Put{})
		spoil(want.l, api.Put{})
		holds(t, its.c, a, want)
	})
}

// What is put behind the end of one list stands in no other one, nor in what was handed in.
func TestP19_4Appends(t *testing.T) {
	t.Parallel()
	remembering(func(its handedIn, want answer) {
		a := its.on()
		longer := make([][]byte, len(a.l))
		for i, x := range a.l {
			longer[i] = append(x.Bytes, filled(40, byte(i+1))...)
		}
		taken, given, l := append(a.taken, 91, 92), append(a.given, 93, 94), append(a.l, api.Put{Row: 95})
		for i, b := range longer {
			if !bytes.Equal(b[len(b)-40:], filled(40, byte(i+1))) {
				t.Fatalf("%v: two raw writes share the room behind their ends", its.k.p)
			}
		}
		if taken[len(taken)-1] != 92 || given[len(given)-2] != 93 || l[len(l)-1].Row != 95 {
			t.Fatalf("%v: two lists share the room behind their ends", its.k.p)
		}
		holds(t, its.c, a, want)
		if !its.untouched() {
			t.Fatalf("%v: an append to an answer changes what was handed in", its.k.p)
		}
	})
}

// An image whose slots stand within one memory, of which the data handed in are a piece too, is answered likewise, and none of it is changed.
func TestP19_4WithinOneMemory(t *testing.T) {
	remembering(func(its handedIn, want answer) {
		m := its.k.image()
		drives := append(slices.Concat(m.Slots...), its.c.data...)
		was, from := bytes.Clone(drives), 0
		for i, b := range m.Slots {
			m.Slots[i] = drives[from : from+len(b)]
			from += len(b)
		}
		c := its.c
		c.data = drives[from:]
		a := holds(t, c, c.on(m), want)
		a.spoil()
		if !bytes.Equal(drives, was) {
			t.Fatalf("%v: a call, or a write into an answer, changes the drives", its.k.p)
		}
	})
}

// What was asked earlier changes no answer.
func TestP19_4NothingIsKept(t *testing.T) {
	p, k := exampleP(), example()
	its := standing(p, 3, 300, 4)
	for range 3 {
		for _, c := range []call{set(3, free89, 6, 70, 69, []byte{99}), whole(3, free89, 6, rising(39)), set(3, nil, 6, 70, 69, []byte{99}), set(2, free89, 6, 1, 0, nil), whole(3, nil, 5, rising(40))} {
			answers(t, k, c)
			answers(t, its.known, its.toSet(5, 1, some(3, 4)))
			answers(t, its.known, its.toWhole(some(320, 4)))
			answers(t, blank(p), c)
		}
	}
}

// Rows without anything may be handed in as nil or not, data likewise; slots without bytes are blank, whatever stands behind their end.
func TestP19_4NilOrNot(t *testing.T) {
	for i, p := range few() {
		p.Rows = min(p.Rows, 20)
		its := standing(p, 3, measured(p).width+1, i)
		m := its.image()
		full := filled(sizeOf(p), 9)
		for i, b := range m.Slots {
			if len(b) == 0 {
				m.Slots[i] = full[:0]
			}
		}
		for _, free := range [][]int{nil, {}, its.free, its.free[:0]} {
			for _, data := range [][]byte{nil, {}, full[:0]} {
				for _, c := range []call{set(3, free, newest+1, 4, 2, data), set(3, free, newest+1, 0, 0, data), set(3, free, newest+1, measured(p).width*2, 2, data), whole(3, free, newest+1, data)} {
					holds(t, c, c.on(m), its.wants(c))
				}
			}
		}
	}
}
