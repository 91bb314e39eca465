package tree

import (
	"bytes"
	"math"
	"slices"
	"testing"

	"twoslot/api"
)

const spare = 20 // places behind the end of what is roomy

// roomy has spare room, in which bytes stand that nobody may change.
func roomy(b []byte) []byte {
	return append(bytes.Clone(b), filled(spare, 77)...)[:len(b)]
}

// roomyImage is an image all parts of which have spare room.
func roomyImage(k known) api.Image {
	m := k.image()
	many := len(m.Slots)
	for i := range m.Slots {
		m.Slots[i] = roomy(m.Slots[i])
	}
	m.Slots = append(m.Slots, slices.Repeat([][]byte{filled(spare, 77)}, spare)...)[:many]
	return m
}

// untouched tells whether a roomy image is as it was, its spare room with it.
func untouched(m api.Image, k known) bool {
	was := k.image()
	if m.P != was.P || len(m.Slots) != len(was.Slots) {
		return false
	}
	for i, b := range m.Slots {
		if len(b) != len(was.Slots[i]) || !bytes.Equal(b[:len(b)+spare], append(bytes.Clone(was.Slots[i]), filled(spare, 77)...)) {
			return false
		}
	}
	behind := m.Slots[len(m.Slots) : len(m.Slots)+spare]
	return slices.EqualFunc(behind, slices.Repeat([][]byte{filled(spare, 77)}, spare), bytes.Equal)
}

// spoil writes behind the end of a list, and into all of it, its spare room with it.
func spoil[T any](l []T, change func(was T) T) {
	if len(l) > 0 {
		_ = append(l, change(l[0]), change(l[0]))
	}
	l = l[:cap(l)]
	for i := range l {
		l[i] = change(l[i])
	}
}

func spoilRefs(l []api.Ref) {
	spoil(l, func(r api.Ref) api.Ref { return api.Ref{Row: -r.Row - 5, Version: r.Version ^ 77} })
}

func spoilRows(l []int) {
	spoil(l, func(row int) int { return -row - 5 })
}

func spoilLive(l []api.Live) {
	spoil(l, func(its api.Live) api.Live {
		return api.Live{Row: -its.Row - 5, Kind: its.Kind + 5, Version: its.Version ^ 77}
	})
}

func spoilImage(m api.Image) {
	for i := range m.Slots {
		spoil(m.Slots[i], func(b byte) byte { return b ^ 0xff })
		m.Slots[i] = filled(3, 3)
	}
}

// spoilers write into one list of the answers each.
func spoilers() []func(a answers) {
	return []func(a answers){
		func(a answers) { spoilRefs(a.d.Refs) },
		func(a answers) { spoilRefs(a.leaves) },
		func(a answers) { spoilRefs(a.stripes) },
		func(a answers) { spoilRows(a.rows) },
		func(a answers) { spoilLive(a.live) },
	}
}

// deepCopy is a copy that shares nothing.
func (a answers) deepCopy() answers {
	b := a
	b.d.Refs, b.leaves, b.stripes = slices.Clone(a.d.Refs), slices.Clone(a.leaves), slices.Clone(a.stripes)
	b.rows, b.live = slices.Clone(a.rows), slices.Clone(a.live)
	return b
}

// remembering calls visit with images that have an object in the row 3: of both depths, and of no stripes, with others beside it.
func remembering(visit func(k known, o object)) {
	for _, p := range few() {
		p.Rows = min(p.Rows, 20) // great images are the same, but slow
		for i, length := range append(shallowAndDeep(p), 1) {
			k, o := blank(p).built(3, 5, length, i)
			visit(k, o)
			visit(k.whole(3, 1, 2, 4, descBytes(p, api.Desc{})), o)
		}
	}
}

func TestP17_3OnlyReads(t *testing.T) {
	remembering(func(k known, _ object) {
		m := roomyImage(k)
		for _, by := range []api.Params{k.p, {}, {K: 2, R: 1, Cell: 16, Rows: 9}} {
			for _, slots := range [][][]byte{m.Slots, m.Slots[1:], m.Slots[:len(m.Slots)+1], nil} {
				for _, row := range []int{0, 3, k.p.Rows - 1, k.p.Rows, -1, math.MinInt, math.MaxInt} {
					asked(api.Image{P: by, Slots: slots}, row)
				}
			}
		}
		if !untouched(m, k) {
			t.Fatalf("%v: a call changes the image", k.p)
		}
	})
}

// Calls that are refused in the midst, by the descriptor or a leaf, change nothing either.
func TestP17_3RefusedCallsOnlyRead(t *testing.T) {
	for _, p := range deep() {
		k, o := leafy(p)
		last := len(o.leaves) - 1
		for _, wrong := range []known{
			k.lost(o.leaves[last].Row),
			k.whole(o.leaves[last].Row, 0, 1, o.leaves[last].Version, filled(measured(p).width, 9)),
			k.whole(3, 0, 2, 5, filled(measured(p).width, 9)),
			k.lost(3),
		} {
			m := roomyImage(wrong)
			if a := asked(m, 3); !a.refused(api.ErrLost) && !a.refused(api.ErrDesc) {
				t.Fatalf("%v: it tells %s", k.p, a.told())
			}
			if !untouched(m, wrong) {
				t.Fatalf("%v: a call that is refused changes the image", k.p)
			}
		}
	}
}

func TestP17_3LaterWritesIntoWhatWasHandedIn(t *testing.T) {
	remembering(func(k known, o object) {
		m := roomyImage(k)
		a := asked(m, 3)
		spoilImage(m)
		if want := answersOf(k.p, 3, o); !a.same(want) {
			t.Fatalf("%v: behind a write into the image the answer is\n%s, want\n%s", k.p, a.told(), want.told())
		}
	})
}

func TestP17_3WritesIntoAnswers(t *testing.T) {
	remembering(func(k known, o object) {
		m := roomyImage(k)
		want := answersOf(k.p, 3, o).deepCopy()
		kept, a := asked(m, 3), asked(m, 3)
		for _, write := range spoilers() {
			write(a)
		}
		if !untouched(m, k) {
			t.Fatalf("%v: a write into an answer changes the image", k.p)
		}
		if later := asked(m, 3); !kept.same(want) || !later.same(want) {
			t.Fatalf("%v: a write into an answer changes an earlier one to\n%s, a later one to\n%s, want\n%s", k.p, kept.told(), later.told(), want.told())
		}
	})
}

// A write into one list of an answer, and behind its end, changes no other one: the Refs of the descriptor are also told as its leaves, or as its stripes.
func TestP17_3PartsOfAnswersApart(t *testing.T) {
	remembering(func(k known, o object) {
		for i := range spoilers() {
			a := asked(k.image(), 3)
			want := answersOf(k.p, 3, o).deepCopy()
			spoilers()[i](a)
			spoilers()[i](want)
			if !a.same(want) {
				t.Fatalf("%v: a write into the list %d of the answers makes\n%s, want\n%s", k.p, i, a.told(), want.told())
			}
		}
	})
}

// What is put behind the end of one list stands in no other one, whichever are appended to first.
func TestP17_3Appends(t *testing.T) {
	remembering(func(k known, o object) {
		m := roomyImage(k)
		a, want := asked(m, 3), answersOf(k.p, 3, o)
		refs := append(a.d.Refs, api.Ref{Row: -1, Version: -1})
		leaves := append(a.leaves, api.Ref{Row: -2, Version: -2})
		stripes := append(a.stripes, api.Ref{Row: -3, Version: -3})
		rows := append(a.rows, -4)
		live := append(a.live, api.Live{Row: -5})
		if refs[len(refs)-1].Row != -1 || leaves[len(leaves)-1].Row != -2 || stripes[len(stripes)-1].Row != -3 || rows[len(rows)-1] != -4 || live[len(live)-1].Row != -5 {
			t.Fatalf("%v: two lists of an answer share the room behind their ends", k.p)
		}
		if !a.same(want) || !untouched(m, k) {
			t.Fatalf("%v: an append to a list of the answers changes another one, or the image", k.p)
		}
	})
}

// An image whose slots stand within one memory is read likewise, and none of it is changed.
func TestP17_3ImagesWithinOneMemory(t *testing.T) {
	remembering(func(k known, o object) {
		m := k.image()
		drives := slices.Concat(m.Slots...)
		was, from := bytes.Clone(drives), 0
		for i, b := range m.Slots {
			m.Slots[i] = drives[from : from+len(b)]
			from += len(b)
		}
		a := asked(m, 3)
		if !a.same(answersOf(k.p, 3, o)) {
			t.Fatalf("%v: an image within one memory is answered otherwise", k.p)
		}
		for _, write := range spoilers() {
			write(a)
		}
		if !bytes.Equal(drives, was) {
			t.Fatalf("%v: a call, or a write into an answer, changes the drives", k.p)
		}
	})
}

// Slots without bytes are blank, whether they are nil or not, and whatever stands behind their end.
func TestP17_3BlankSlots(t *testing.T) {
	remembering(func(k known, o object) {
		m := k.image()
		full := slices.Clone(m.Slots[slices.IndexFunc(m.Slots, func(b []byte) bool { return len(b) > 0 })])
		for i, b := range m.Slots {
			if len(b) == 0 {
				m.Slots[i] = full[:0]
			}
		}
		tells(t, m, 3, o)
	})
}

// What was asked earlier changes no answer.
func TestP17_3NothingIsKept(t *testing.T) {
	for range 2 {
		other, theirs := example()
		remembering(func(k known, o object) {
			tells(t, k.image(), 3, o)
			tells(t, other.image(), 3, theirs)
			refuses(t, blank(k.p).image(), 3, api.ErrLost)
			refuses(t, api.Image{}, 3, api.ErrParams)
			tells(t, k.image(), 3, o)
		})
	}
}
