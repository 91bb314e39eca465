package dir

import (
	"slices"
	"testing"

	"twoslot/api"
)

const spare = 20 // places behind the end of what is roomy

// roomy has spare room, in which things stand that nobody may change.
func roomy[T any](l []T, there T) []T {
	return append(slices.Clone(l), slices.Repeat([]T{there}, spare)...)[:len(l)]
}

// untouched tells whether a roomy list is as it was, its spare room with it.
func untouched[T comparable](l, was []T, there T) bool {
	return len(l) == len(was) && slices.Equal(l[:len(l)+spare], append(slices.Clone(was), slices.Repeat([]T{there}, spare)...))
}

// spoil writes behind the end of a list, and into all of it, its spare room with it.
func spoil[T any](l []T, with T) {
	_ = append(l, with, with, with)
	l = l[:cap(l)]
	for i := range l {
		l[i] = with
	}
}

// kept stands in the spare room, other is what is written later.
var kept, other = entry("kept", 3), entry("other", 2)

// handed is what is handed in, all of it roomy, and as it was.
type handed struct {
	p        api.Params
	l, was   []api.Entry
	b, bytes []byte
	rows     []int
	root     []byte
	x        api.Entry // is in the list
	more     api.Entry // is not
}

// answers are all lists that the calls answered.
type answers struct {
	made, root         []byte
	read, longer, rest []api.Entry
	rows               []int
}

// remembering calls visit with lists that have an entry at least, and room for one more.
func remembering(visit func(h handed)) {
	throw := dice(9)
	for _, p := range few() {
		for _, was := range lists(p) {
			more := entry([]string{"\x00", "m", "object.7", "\xff\xff\xff", "a\x03"}[throw.below(5)], throw.below(p.Rows))
			if _, is, _ := wantFind(p, was, more.Name); len(was) == 0 || is || room(was)+len(more.Name)+3 > most(p) {
				continue
			}
			rows := rowLists(p)[throw.below(10)]
			root, _ := wantRoot(p, rows)
			b := asBytes(was)
			for _, place := range []int{0, len(was) / 2, len(was) - 1} {
				visit(handed{p, roomy(was, kept), was, roomy(b, 7), b, roomy(rows, 7), roomy(root, 7), was[place], more})
			}
		}
	}
}

// asked makes all calls, none of which may be refused.
func (h handed) asked(t *testing.T) answers {
	t.Helper()
	var a answers
	var errs [6]api.Errno
	a.made, errs[0] = Bytes(h.p, h.l)
	a.read, errs[1] = Parse(h.p, h.b)
	a.longer, errs[2] = Add(h.p, h.l, h.more)
	a.rest, errs[3] = Remove(h.p, h.l, h.x.Name)
	a.root, errs[4] = Root(h.p, h.rows)
	a.rows, errs[5] = Buckets(h.p, h.root)
	row, is, err := Find(h.p, h.l, h.x.Name)
	if errs != [6]api.Errno{} || row != h.x.Row || !is || err != 0 || Check(h.p, h.l) != 0 {
		t.Fatalf("%v: right calls of the entries %s are refused: %v, or Find is %d, %v, %d", h.p, told(h.l), errs, row, is, err)
	}
	return a
}

// wanted is what the document says of this.
func (h handed) wanted() answers {
	longer, _ := wantAdd(h.p, h.was, h.more)
	rest, _ := wantRemove(h.p, h.was, h.x.Name)
	root, _ := wantRoot(h.p, h.rows)
	return answers{slices.Clone(h.bytes), root, slices.Clone(h.was), longer, rest, slices.Clone(h.rows)}
}

func (h handed) untouched(was handed) bool {
	return untouched(h.l, was.was, kept) && untouched(h.b, was.bytes, 7) && untouched(h.rows, was.rows, 7) && untouched(h.root, was.root, 7)
}

func (a answers) same(b answers) bool {
	return slices.Equal(a.made, b.made) && slices.Equal(a.root, b.root) && slices.Equal(a.read, b.read) && slices.Equal(a.longer, b.longer) && slices.Equal(a.rest, b.rest) && slices.Equal(a.rows, b.rows)
}

// copied has memory of its own, for all that is not roomy.
func (h handed) copied() handed {
	h.rows, h.root = slices.Clone(h.rows), slices.Clone(h.root)
	return h
}

func TestP22_5OnlyReads(t *testing.T) {
	remembering(func(h handed) {
		was := h.copied()
		if a := h.asked(t); !a.same(was.wanted()) {
			t.Fatalf("%v: the answers of the entries %s are %v", h.p, told(h.was), a)
		}
		if !h.untouched(was) {
			t.Fatalf("%v: a call changes what was handed in, of the entries %s", h.p, told(h.was))
		}
	})
}

func TestP22_5WrongInputsAreOnlyRead(t *testing.T) {
	for _, p := range few() {
		all := append(wrongLists(p), filled(p, most(p)+1, 3), filled(p, most(p)+400, 3))
		for _, was := range all {
			l, b := roomy(was, kept), roomy(asBytes(was), 7)
			bytes := slices.Clone(b)
			refusedList(t, p, l, wantCheck(p, was))
			Parse(p, b)
			Parse(api.Params{}, b)
			Buckets(p, b)
			if !untouched(l, was, kept) || !untouched(b, bytes, 7) {
				t.Fatalf("%v: a call that is refused changes the entries %s, or their bytes", p, told(was))
			}
		}
		was := right(p)
		l := roomy(was, kept)
		for _, name := range []string{"", "a", "b", "dd", "z"} {
			for _, row := range []int{-1, 1, p.Rows} {
				Add(p, l, entry(name, row))
				Add(api.Params{}, l, entry(name, row))
				Remove(p, l, name)
			}
		}
		for _, rows := range [][]int{{1, 2, 3}, {1, 2, 3, -1}, {3, 2, 1, p.Rows}, {4, 3, 2, 1, 0}} {
			r := roomy(rows, 7)
			Root(p, r)
			Root(api.Params{}, r)
			if !untouched(r, rows, 7) {
				t.Fatalf("%v: Root changes %v", p, rows)
			}
		}
		if !untouched(l, was, kept) {
			t.Fatalf("%v: a call changes the entries %s", p, told(was))
		}
	}
}

func (h handed) spoil() {
	spoil(h.l, other)
	spoil(h.b, 9)
	spoil(h.rows, 9)
	spoil(h.root, 9)
}

func TestP22_5LaterWritesIntoWhatWasHandedIn(t *testing.T) {
	remembering(func(h handed) {
		want := h.copied().wanted()
		a := h.asked(t)
		h.spoil()
		if !a.same(want) {
			t.Fatalf("%v: a write into what was handed in changes an answer of the entries %s", h.p, told(h.was))
		}
	})
}

// A write into one list that is answered, and behind its end, changes no other one, neither of that call nor of another, nor what was handed in.
func TestP22_5WritesIntoAnswers(t *testing.T) {
	remembering(func(h handed) {
		was := h.copied()
		want := was.wanted()
		first, second := h.asked(t), h.asked(t)
		spoil(first.made, 9)
		spoil(first.root, 9)
		spoil(first.read, other)
		spoil(first.longer, other)
		spoil(first.rest, other)
		spoil(first.rows, 9)
		if !h.untouched(was) {
			t.Fatalf("%v: a write into an answer changes the entries %s, or other things handed in", h.p, told(h.was))
		}
		if !second.same(want) || !h.asked(t).same(want) {
			t.Fatalf("%v: a write into an answer changes another call's, of the entries %s", h.p, told(h.was))
		}
	})
}

// What is put behind the end of one answer stands in no other one, nor behind what was handed in.
func TestP22_5Appends(t *testing.T) {
	remembering(func(h handed) {
		was := h.copied()
		first, second := h.asked(t), h.asked(t)
		longer := answers{append(first.made, 1), append(first.root, 1), append(first.read, kept), append(first.longer, kept), append(first.rest, kept), append(first.rows, 1)}
		_ = answers{append(second.made, 2), append(second.root, 2), append(second.read, other), append(second.longer, other), append(second.rest, other), append(second.rows, 2)}
		want := was.wanted()
		if !longer.same(answers{append(want.made, 1), append(want.root, 1), append(want.read, kept), append(want.longer, kept), append(want.rest, kept), append(want.rows, 1)}) {
			t.Fatalf("%v: two answers of the entries %s share the room behind their ends", h.p, told(h.was))
		}
		if !h.untouched(was) {
			t.Fatalf("%v: an append to an answer changes what stands behind the entries %s", h.p, told(h.was))
		}
	})
}

// Entries without the first one, or the last one, are those of the list no more.
func TestP22_5RemoveAtTheEnds(t *testing.T) {
	for _, p := range few() {
		was := right(p)
		for place := range was {
			l := roomy(was, kept)
			rest, err := Remove(p, l, was[place].Name)
			well(t, p, err)
			spoil(rest, other)
			if !untouched(l, was, kept) {
				t.Fatalf("%v: a write into what Remove left of the entries %s changes them", p, told(was))
			}
		}
		for _, one := range [][]api.Entry{{entry("a", 1)}, nil} {
			l := roomy(one, kept)
			longer, err := Add(p, l, entry("b", 1))
			well(t, p, err)
			rest, err := Remove(p, longer, "b")
			well(t, p, err)
			spoil(longer, other)
			spoil(rest, other)
			if !untouched(l, one, kept) {
				t.Fatalf("%v: a write into an answer changes the entries %s", p, told(one))
			}
		}
	}
}

// Lists and bytes that are pieces of one memory are read likewise.
func TestP22_5PiecesOfOneMemory(t *testing.T) {
	for _, p := range few() {
		for _, l := range lists(p) {
			was, b := slices.Clone(l), asBytes(l)
			for from := 0; from <= len(l); from += 1 + len(l)/5 {
				for to := from; to <= len(l); to += 1 + len(l)/5 {
					checkBytes(t, p, l[from:to])
					checkAdd(t, p, l[from:to], other)
					checkParse(t, p, b[room(l[:from]):room(l[:to])])
					if to > from {
						checkRemove(t, p, l[from:to], l[from].Name)
					}
				}
			}
			if !slices.Equal(l, was) || string(b) != string(asBytes(was)) {
				t.Fatalf("%v: a call that is handed a piece changes the whole", p)
			}
		}
	}
}

// A list without entries may be nil or not, whatever stands behind its end.
func TestP22_5NilOrNot(t *testing.T) {
	for _, p := range few() {
		for _, none := range [][]api.Entry{nil, {}, make([]api.Entry, 0, 9), roomy(nil, kept), right(p)[:0]} {
			checkBytes(t, p, none)
			checkFind(t, p, none, "kept")
			checkAdd(t, p, none, other)
			checkRemove(t, p, none, "kept")
		}
		for _, none := range [][]byte{nil, {}, make([]byte, 0, 9), roomy(nil, byte(1)), asBytes(right(p))[:0]} {
			checkParse(t, p, none)
			checkBuckets(t, p, none)
		}
		for _, none := range [][]int{nil, {}, make([]int, 9)[:0]} {
			checkRoot(t, p, none)
		}
	}
}

// What was asked earlier changes no answer.
func TestP22_5NothingIsKept(t *testing.T) {
	remembering(func(h handed) {
		want := h.asked(t)
		Add(h.p, []api.Entry{kept}, other)
		Remove(h.p, []api.Entry{kept, other}, "kept")
		Bytes(exampleP(), right(exampleP()))
		Parse(h.p, []byte{1, 'a', 0, 1, 9})
		Root(h.p, []int{0, 1, 2, 3})
		Buckets(h.p, []byte{255})
		if !h.asked(t).same(want) {
			t.Fatalf("%v: what is asked again of the entries %s is answered otherwise", h.p, told(h.was))
		}
	})
}
