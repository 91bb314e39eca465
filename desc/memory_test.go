package desc

import (
	"bytes"
	"slices"
	"testing"

	"twoslot/api"
)

const spare = 20 // places behind the end of what is roomy

// roomy has spare room, in which bytes stand that nobody may change.
func roomy(b []byte) []byte {
	return append(bytes.Clone(b), filled(spare, 77)...)[:len(b)]
}

// untouched tells whether roomy bytes are as they were, their spare room with them.
func untouched(b, was []byte) bool {
	return len(b) == len(was) && bytes.Equal(b[:len(b)+spare], append(bytes.Clone(was), filled(spare, 77)...))
}

// spareRefs stand in the spare room of lists.
func spareRefs() []api.Ref { return slices.Repeat([]api.Ref{{Row: 77, Version: 78}}, spare) }

func roomyRefs(l []api.Ref) []api.Ref {
	return append(slices.Clone(l), spareRefs()...)[:len(l)]
}

func untouchedRefs(l, was []api.Ref) bool {
	return len(l) == len(was) && slices.Equal(l[:len(l)+spare], append(slices.Clone(was), spareRefs()...))
}

// roomyDesc is a descriptor whose list has spare room.
func roomyDesc(d api.Desc) api.Desc {
	d.Refs = roomyRefs(d.Refs)
	return d
}

// spoil writes into all of some bytes, their spare room with them, and behind their end.
func spoil(b []byte) {
	_ = append(b, 1, 2, 3)
	b = b[:cap(b)]
	for i := range b {
		b[i] ^= 0xff
	}
}

// spoilRefs does so with Refs.
func spoilRefs(l []api.Ref) {
	_ = append(l, api.Ref{Row: 1, Version: 2}, api.Ref{Row: 3, Version: 4})
	l = l[:cap(l)]
	for i := range l {
		l[i] = api.Ref{Row: -l[i].Row - 5, Version: -l[i].Version - 5}
	}
}

// well is what a call answered, which must not be refused.
func well[T any](t *testing.T) func(answer T, err api.Errno) T {
	return func(answer T, err api.Errno) T {
		t.Helper()
		if err != api.OK {
			t.Fatalf("a call that must be well answers %d", err)
		}
		return answer
	}
}

// someLeaves are Refs of leaves: one, several, all.
func someLeaves(p api.Params) [][]api.Ref {
	leaf := measured(p).leaf
	return [][]api.Ref{ofMany(p, 1, 1), ofMany(p, 3, 3), ofMany(p, leaf-1, 2), ofMany(p, leaf, 4)}
}

func TestP15_4OnlyReads(t *testing.T) {
	for _, p := range few() {
		for _, by := range []api.Params{p, {}, exampleP()} {
			for _, was := range rights(p) {
				d, b := roomyDesc(was), roomy(wantBytes(p, was))
				Check(by, d)
				Bytes(by, d)
				Parse(by, b)
				if !untouchedRefs(d.Refs, was.Refs) || !untouched(b, wantBytes(p, was)) {
					t.Fatalf("%v: a call changes %s, or its bytes", p, told(was))
				}
			}
			for _, was := range someLeaves(p) {
				l, b := roomyRefs(was), roomy(wantLeaf(p, was))
				Leaf(by, l)
				Refs(by, b, len(l))
				Refs(by, b, 1)
				if !untouchedRefs(l, was) || !untouched(b, wantLeaf(p, was)) {
					t.Fatalf("%v: a call changes%s, or their bytes", p, toldRefs(was))
				}
			}
		}
	}
}

func TestP15_4LaterWritesIntoWhatWasHandedIn(t *testing.T) {
	for _, p := range few() {
		for _, was := range rights(p) {
			d, b := roomyDesc(was), roomy(wantBytes(p, was))
			made, read := well[[]byte](t)(Bytes(p, d)), well[api.Desc](t)(Parse(p, b))
			spoilRefs(d.Refs)
			spoil(b)
			if !bytes.Equal(made, wantBytes(p, was)) || !sameDesc(read, was) {
				t.Fatalf("%v: a write into what was handed in changes what was answered of %s", p, told(was))
			}
		}
		for _, was := range someLeaves(p) {
			l, b := roomyRefs(was), roomy(wantLeaf(p, was))
			made, read := well[[]byte](t)(Leaf(p, l)), well[[]api.Ref](t)(Refs(p, b, len(l)))
			spoilRefs(l)
			spoil(b)
			if !bytes.Equal(made, wantLeaf(p, was)) || !slices.Equal(read, was) {
				t.Fatalf("%v: a write into what was handed in changes what was answered of%s", p, toldRefs(was))
			}
		}
	}
}

func TestP15_4WritesIntoAnswers(t *testing.T) {
	for _, p := range few() {
		for _, was := range rights(p) {
			d, b := roomyDesc(was), roomy(wantBytes(p, was))
			made, read := well[[]byte](t)(Bytes(p, d)), well[api.Desc](t)(Parse(p, b))
			spoil(well[[]byte](t)(Bytes(p, d)))
			spoilRefs(well[api.Desc](t)(Parse(p, b)).Refs)
			if !untouchedRefs(d.Refs, was.Refs) || !untouched(b, wantBytes(p, was)) {
				t.Fatalf("%v: a write into an answer changes %s, or its bytes", p, told(was))
			}
			if !bytes.Equal(made, wantBytes(p, was)) || !sameDesc(read, was) {
				t.Fatalf("%v: a write into an answer changes an earlier one of %s", p, told(was))
			}
			checkBytes(t, p, d, made)
			checkParse(t, p, b, read)
		}
	}
}

func TestP15_4WritesIntoAnswersOfLeaves(t *testing.T) {
	for _, p := range few() {
		for _, was := range someLeaves(p) {
			l, b := roomyRefs(was), roomy(wantLeaf(p, was))
			made, read := well[[]byte](t)(Leaf(p, l)), well[[]api.Ref](t)(Refs(p, b, len(l)))
			spoil(well[[]byte](t)(Leaf(p, l)))
			spoilRefs(well[[]api.Ref](t)(Refs(p, b, len(l))))
			if !untouchedRefs(l, was) || !untouched(b, wantLeaf(p, was)) {
				t.Fatalf("%v: a write into an answer changes%s, or their bytes", p, toldRefs(was))
			}
			if !bytes.Equal(made, wantLeaf(p, was)) || !slices.Equal(read, was) {
				t.Fatalf("%v: a write into an answer changes an earlier one of%s", p, toldRefs(was))
			}
			checkLeaf(t, p, l, made)
			checkRefs(t, p, b, read)
		}
	}
}

// What is read of bytes and written again shares nothing with these, nor with one another.
func TestP15_4ThereAndBackIsNewMemory(t *testing.T) {
	for _, p := range few() {
		for _, was := range rights(p) {
			b := wantBytes(p, was)
			read := well[api.Desc](t)(Parse(p, b))
			again := well[[]byte](t)(Bytes(p, read))
			spoilRefs(read.Refs)
			if !bytes.Equal(b, wantBytes(p, was)) || !bytes.Equal(again, b) {
				t.Fatalf("%v: the bytes of %s share memory with what was read of them", p, told(was))
			}
			spoil(again)
			checkParse(t, p, b, was)
		}
		for _, was := range someLeaves(p) {
			b := wantLeaf(p, was)
			read := well[[]api.Ref](t)(Refs(p, b, len(was)))
			again := well[[]byte](t)(Leaf(p, read))
			spoilRefs(read)
			if !bytes.Equal(b, wantLeaf(p, was)) || !bytes.Equal(again, b) {
				t.Fatalf("%v: the bytes of%s share memory with what was read of them", p, toldRefs(was))
			}
			spoil(again)
			checkRefs(t, p, b, was)
		}
	}
}

// Refs and bytes that stand within greater ones, as those of a drive do, are read likewise.
func TestP15_4PartsOfGreaterLists(t *testing.T) {
	for _, p := range few() {
		l := ofMany(p, 4, 3)
		first, second := wantLeaf(p, l), wantBytes(p, descOf(p, p.K*p.Cell*2, 3))
		all := slices.Concat(first, second, first)
		was, width := bytes.Clone(all), p.K*p.Cell
		read := well[[]api.Ref](t)(Refs(p, all[:width], 4))
		d := well[api.Desc](t)(Parse(p, all[width:2*width]))
		if !slices.Equal(read, l) || !sameDesc(d, descOf(p, 2*width, 3)) {
			t.Fatalf("%v: what stands within greater bytes is read as%s and %s", p, toldRefs(read), told(d))
		}
		spoilRefs(read)
		spoilRefs(d.Refs)
		inner := api.Desc{Length: 2 * width, Refs: l[1:3]}
		checkBytes(t, p, inner, wantBytes(p, inner))
		checkLeaf(t, p, l[1:3], wantLeaf(p, l[1:3]))
		if !bytes.Equal(all, was) || !slices.Equal(l, ofMany(p, 4, 3)) {
			t.Fatalf("%v: a call, or a write into an answer, changes what stands beside what was handed in", p)
		}
	}
}

// What was asked earlier, well or refused, changes no answer.
func TestP15_4NothingIsKept(t *testing.T) {
	for _, p := range few() {
		for _, right := range rights(p) {
			for _, other := range few() {
				for _, d := range someDescs(other) {
					Check(other, d)
					Bytes(other, d)
					Bytes(p, d)
					Leaf(other, d.Refs)
					Parse(other, wantBytes(other, d))
				}
			}
			Parse(p, make([]byte, p.K*p.Cell))
			Parse(p, nil)
			Refs(p, filled(p.K*p.Cell, 255), 2)
			checkBytes(t, p, right, wantBytes(p, right))
			checkParse(t, p, wantBytes(p, right), right)
			l := ofMany(p, measured(p).leaf, 5)
			checkLeaf(t, p, l, wantLeaf(p, l))
			checkRefs(t, p, wantLeaf(p, l), l)
		}
	}
}
