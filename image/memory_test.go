package image

import (
	"bytes"
	"slices"
	"testing"

	"twoslot/api"
)

// roomy has spare room, in which bytes stand that nobody may change.
func roomy(held []byte) []byte {
	return append(bytes.Clone(held), filled(20, 77)...)[:len(held)]
}

// untouched tells whether roomy bytes are as they were, their spare room with them.
func untouched(held, was []byte) bool {
	return bytes.Equal(held[:len(held)+20], append(bytes.Clone(was), filled(20, 77)...))
}

// spoil writes into all of some bytes, their spare room with them, and behind their end.
func spoil(held []byte) {
	_ = append(held, 1, 2, 3)
	held = held[:cap(held)]
	for i := range held {
		held[i] ^= 0xff
	}
}

// spoilAll does so with each slot of a list, and puts other ones into the list and behind its end.
func spoilAll(slots [][]byte) {
	for i, held := range slots {
		spoil(held)
		_ = append(held, 99)
		slots[i] = filled(3, 3)
	}
	_ = append(slots, filled(4, 4))
}

// roomyImage is an image whose list and slots have spare room.
func roomyImage(m api.Image) api.Image {
	made := api.Image{P: m.P}
	for _, held := range m.Slots {
		made.Slots = append(made.Slots, roomy(held))
	}
	made.Slots = append(made.Slots, filled(3, 66), filled(3, 66))[:len(m.Slots)]
	return made
}

// untouchedImage tells whether a roomy image is as it was.
func untouchedImage(m, was api.Image) bool {
	if m.P != was.P || len(m.Slots) != len(was.Slots) {
		return false
	}
	for i, held := range m.Slots {
		if len(held) != len(was.Slots[i]) || !untouched(held, was.Slots[i]) {
			return false
		}
	}
	for _, held := range m.Slots[:len(m.Slots)+2][len(m.Slots):] {
		if !bytes.Equal(held, filled(3, 66)) {
			return false
		}
	}
	return true
}

// roomyPuts are raw writes in a list with spare room, whose Bytes have some, too.
func roomyPuts(l []api.Put) []api.Put {
	var all []api.Put
	for _, x := range l {
		x.Bytes = roomy(x.Bytes)
		all = append(all, x)
	}
	spare := api.Put{Drive: -7, Row: -7, Slot: -7}
	return append(all, spare, spare)[:len(l)]
}

// untouchedPuts tells whether roomy raw writes are as they were.
func untouchedPuts(l, was []api.Put) bool {
	for i, x := range l {
		if x.Drive != was[i].Drive || x.Row != was[i].Row || x.Slot != was[i].Slot || !untouched(x.Bytes, was[i].Bytes) {
			return false
		}
	}
	for _, x := range l[:len(l)+2][len(l):] {
		if x.Drive != -7 || x.Row != -7 || x.Slot != -7 || x.Bytes != nil {
			return false
		}
	}
	return true
}

// callAll makes every call with an image, another one, raw writes and numbers.
func callAll(a, b api.Image, l []api.Put, number int) {
	Blank(a.P)
	Check(a)
	if len(l) > 0 {
		Put(a, l[0])
	}
	After(a, l, number)
	After(a, l, len(l))
	Wiped(a, number)
	Row(a, number)
	Diff(a, b)
	Rows(l)
	Same(a, b)
}

func TestP9_6WhatIsHandedInIsOnlyRead(t *testing.T) {
	for _, p := range few() {
		images := append(patterns(p), wrongImages(p)...)
		lists := [][]api.Put{nil, series(p, 5, 9), wrongPuts(p)[:3], append(series(p, 6, 4), wrongPuts(p)[5:7]...)}
		for i, was := range images {
			wasB := images[(i*5+1)%len(images)]
			wasL := lists[i%len(lists)]
			for _, number := range []int{0, 1, 3, -1, 4000} {
				a, b, l := roomyImage(was), roomyImage(wasB), roomyPuts(wasL)
				callAll(a, b, l, number)
				callAll(a, a, l, number)
				if !untouchedImage(a, was) || !untouchedImage(b, wasB) || !untouchedPuts(l, wasL) {
					t.Fatalf("%v: a call changes what is handed in: the image %d", p, i)
				}
			}
		}
	}
}

// answers are all lists of bytes that calls answer of an image, of what it becomes, and of raw writes.
func answers(t *testing.T, m api.Image, l []api.Put) [][][]byte {
	t.Helper()
	after := must(t)(After(m, l, len(l)))
	none := must(t)(After(m, l, 0))
	put := must(t)(Put(m, l[0]))
	wiped := must(t)(Wiped(m, m.P.K+m.P.R-1))
	all := [][][]byte{after.Slots, none.Slots, put.Slots, wiped.Slots}
	for _, row := range []int{0, 1, m.P.Rows - 1} {
		pairs, err := Row(m, row)
		if err != api.OK {
			t.Fatalf("Row %d is %d", row, err)
		}
		all = append(all, slotsOf(pairs))
	}
	diff, err := Diff(m, after)
	if err != api.OK {
		t.Fatalf("Diff is %d", err)
	}
	return append(all, bytesOf(diff))
}

func slotsOf(pairs []api.Pair) [][]byte {
	var all [][]byte
	for _, pair := range pairs {
		all = append(all, pair[0], pair[1])
	}
	return all
}

func bytesOf(l []api.Put) [][]byte {
	var all [][]byte
	for _, x := range l {
		all = append(all, x.Bytes)
	}
	return all
}

// deep is a copy of lists of bytes.
func deep(all [][][]byte) [][][]byte {
	made := make([][][]byte, len(all))
	for i, list := range all {
		for _, held := range list {
			made[i] = append(made[i], bytes.Clone(held))
		}
	}
	return made
}

func sameDeep(all, other [][][]byte) bool {
	return slices.EqualFunc(all, other, func(a, b [][]byte) bool { return slices.EqualFunc(a, b, bytes.Equal) })
}

func TestP9_6LaterWritesIntoWhatWasHandedIn(t *testing.T) {
	for _, p := range few() {
		for seed, was := range patterns(p) {
			m, l := roomyImage(was), roomyPuts(series(p, seed+60, 9))
			got := answers(t, m, l)
			want := deep(got)
			after := must(t)(After(m, l, len(l)))
			diff, _ := Diff(m, after)
			wantDiff := deep([][][]byte{bytesOf(diff)})
			spoilAll(m.Slots)
			for i := range l {
				spoil(l[i].Bytes)
				l[i] = api.Put{Drive: 99}
			}
			if !sameDeep(got, want) {
				t.Fatalf("%v: a write into what was handed in changes an answer", p)
			}
			spoilAll(after.Slots) // b of Diff
			if !sameDeep([][][]byte{bytesOf(diff)}, wantDiff) {
				t.Fatalf("%v: a write into an image changes what Diff answered", p)
			}
		}
	}
}

func TestP9_6WritesIntoAnswers(t *testing.T) {
	for _, p := range few() {
		for seed, was := range patterns(p) {
			m, wasL := roomyImage(was), series(p, seed+60, 9)
			l := roomyPuts(wasL)
			want := deep(answers(t, m, l))
			kept := answers(t, m, l)
			for _, list := range answers(t, m, l) {
				spoilAll(list)
			}
			after := must(t)(After(m, l, len(l)))
			diff, _ := Diff(m, after)
			for i := range diff {
				spoil(diff[i].Bytes)
				diff[i] = api.Put{Row: 99}
			}
			if !Same(after, must(t)(After(m, l, len(l)))) {
				t.Fatalf("%v: a write into Diff's answer changes an image", p)
			}
			if !untouchedImage(m, was) || !untouchedPuts(l, wasL) {
				t.Fatalf("%v: a write into an answer changes what was handed in", p)
			}
			if !sameDeep(kept, want) || !sameDeep(answers(t, m, l), want) {
				t.Fatalf("%v: a write into an answer changes another one", p)
			}
		}
	}
}

func TestP9_6EachSlotApart(t *testing.T) {
	for _, p := range []api.Params{few()[0], few()[1], few()[2]} {
		one := some(p, 8)
		for _, m := range []api.Image{full(p), {P: p, Slots: slices.Repeat([][]byte{one}, len(places(p)))}} { // also of slots that share their bytes
			x := places(p)[4].put(one)
			l := []api.Put{x, x, places(p)[9].put(one), places(p)[11].put(one)}
			for n, list := range answers(t, m, l) {
				want := deep([][][]byte{list})[0]
				for i := range list {
					spoil(list[i])
					_ = append(list[i], 9, 9, 9)
					for j := range list {
						if i != j && !bytes.Equal(list[j], want[j]) {
							t.Fatalf("%v: the slots %d and %d of the answer %d share memory", p, i, j, n)
						}
					}
					copy(list[i], want[i])
				}
			}
		}
	}
}

func TestP9_6BlankSlotsApart(t *testing.T) {
	for _, p := range few() {
		spare := make([]byte, 0, size(p))
		m := api.Image{P: p, Slots: slices.Repeat([][]byte{spare}, len(places(p)))}
		x := places(p)[4].put(some(p, 1))
		for n, list := range answers(t, m, []api.Put{x}) {
			for i := range list {
				if len(list[i]) == 0 {
					list[i] = append(list[i], byte(i))
				}
			}
			for i, held := range list {
				if len(held) == 1 && held[0] != byte(i) {
					t.Fatalf("%v: blank slots of the answer %d share their spare room", p, n)
				}
			}
		}
		if !bytes.Equal(spare[:size(p)], make([]byte, size(p))) {
			t.Fatalf("%v: a blank slot of an answer has the spare room of what was handed in", p)
		}
		blank := must(t)(Blank(p))
		for i := range blank.Slots {
			blank.Slots[i] = append(blank.Slots[i], byte(i))
		}
		for i, held := range blank.Slots {
			if !bytes.Equal(held, []byte{byte(i)}) {
				t.Fatalf("%v: slots of Blank share their spare room", p)
			}
		}
		if again := must(t)(Blank(p)); !Same(again, api.Image{P: p, Slots: make([][]byte, len(blank.Slots))}) {
			t.Fatalf("%v: a write into Blank's answer changes the next one", p)
		}
	}
}

func TestP9_6ListsApart(t *testing.T) {
	for _, p := range few() {
		m := mixed(p)
		first, second := must(t)(After(m, nil, 0)), must(t)(After(m, nil, 0))
		pairs, _ := Row(m, 0)
		other, _ := Row(m, 0)
		want := slotsOf(other)
		for i := range pairs {
			pairs[i] = api.Pair{filled(1, 1), filled(2, 2)}
		}
		_ = append(pairs, api.Pair{filled(1, 1)})
		for i := range first.Slots {
			first.Slots[i] = filled(1, 1)
		}
		_ = append(first.Slots, filled(1, 1))
		if !Same(second, m) || !Same(m, mixed(p)) || !slices.EqualFunc(slotsOf(other), want, bytes.Equal) {
			t.Fatalf("%v: the lists of two answers share memory", p)
		}
	}
	l := rowsOf(3, 1, 2, 3, 1)
	was := rowsOf(3, 1, 2, 3, 1)
	rows, _ := Rows(l)
	other, _ := Rows(l)
	rows = rows[:cap(rows)]
	for i := range rows {
		rows[i] = 77
	}
	if !samePuts(l, was) || !slices.Equal(other, []int{1, 2, 3}) {
		t.Fatal("the lists of two answers of Rows share memory")
	}
	rows, _ = Rows(l)
	l[0].Row, l[1].Row = 50, 60
	if !slices.Equal(rows, []int{1, 2, 3}) {
		t.Fatal("a write into what was handed in changes what Rows answered")
	}
}

func TestP9_6AnAnswerHandedIn(t *testing.T) {
	for _, p := range few() {
		m, l := mixed(p), series(p, 80, 9)
		b := must(t)(After(m, l, len(l)))
		want := mirrorOf(b)
		diff, _ := Diff(m, b)
		made := must(t)(After(m, diff, len(diff)))
		check(t, made, api.OK, want)
		for _, x := range diff {
			spoil(x.Bytes)
		}
		check(t, made, api.OK, want)
		again := must(t)(Wiped(made, 0))
		spoilAll(made.Slots)
		check(t, again, api.OK, want.without(0))
		check(t, b, api.OK, want)
	}
}
