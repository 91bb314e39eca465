package update

import (
	"bytes"
	"slices"
	"testing"

	"twoslot/api"
)

const spare = 20 // places behind the end of what is roomy

// roomy has spare room, in which bytes stand that nobody may change.
func roomy(b []byte) []byte {
	return append(bytes.Clone(b), filled(spare, 77)...)[:len(b)]
}

// roomyRow is a row all parts of which have spare room.
func roomyRow(r known) []api.Pair {
	var row []api.Pair
	for _, two := range r.row() {
		row = append(row, api.Pair{roomy(two[0]), roomy(two[1])})
	}
	return append(row, api.Pair{filled(spare, 77), filled(spare, 77)})[:len(row)]
}

// roomyChanges are changes with spare room behind each and behind all, enough for all parity cells.
func roomyChanges(l []api.Change) []api.Change {
	var made []api.Change
	for _, x := range l {
		made = append(made, api.Change{Cell: x.Cell, Data: roomy(x.Data)})
	}
	for range spare {
		made = append(made, api.Change{Cell: 77, Data: filled(spare, 77)})
	}
	return made[:len(l)]
}

// untouchedBytes tells whether roomy bytes are as they were, their spare room with them.
func untouchedBytes(b, was []byte) bool {
	return len(b) == len(was) && bytes.Equal(b[:len(b)+spare], append(bytes.Clone(was), filled(spare, 77)...))
}

// untouched tells so of a roomy row.
func untouched(row []api.Pair, r known) bool {
	for drive, two := range row {
		if !untouchedBytes(two[0], r[drive][0].bytes) || !untouchedBytes(two[1], r[drive][1].bytes) {
			return false
		}
	}
	behind := row[:len(row)+1][len(row)]
	return bytes.Equal(behind[0], filled(spare, 77)) && bytes.Equal(behind[1], filled(spare, 77))
}

// untouchedChanges tells so of roomy changes.
func untouchedChanges(l, was []api.Change) bool {
	for i, x := range l {
		if x.Cell != was[i].Cell || !untouchedBytes(x.Data, was[i].Data) {
			return false
		}
	}
	return len(l) == len(was) && !slices.ContainsFunc(l[len(l):len(l)+spare], func(x api.Change) bool {
		return x.Cell != 77 || !bytes.Equal(x.Data, filled(spare, 77))
	})
}

// spoil writes into all of some bytes, their spare room with them, and behind their end.
func spoil(b []byte) {
	_ = append(b, 1, 2, 3)
	b = b[:cap(b)]
	for i := range b {
		b[i] ^= 0xff
	}
}

func spoilRow(row []api.Pair) {
	for drive := range row {
		spoil(row[drive][0])
		spoil(row[drive][1])
		row[drive] = api.Pair{filled(3, 3), nil}
	}
}

func spoilChanges(l []api.Change) {
	for i := range l {
		spoil(l[i].Data)
		l[i] = api.Change{Cell: -5, Data: filled(3, 3)}
	}
}

// handed is what all calls are handed.
type handed struct {
	call
	old, now []byte // of the width
	at, end  int    // which of the new bytes are written
}

// answers are what all calls answered.
type answers struct {
	puts            []api.Put
	changes, unlike []api.Change
}

// answered makes all calls, none of which may be refused.
func (h handed) answered(t *testing.T) answers {
	t.Helper()
	var a answers
	var errs [3]api.Errno
	a.puts, errs[0] = Plan(h.p, h.row, h.number, h.from, h.to, h.l)
	a.changes, errs[1] = Changes(h.p, h.old, h.at, h.now[h.at:h.end])
	a.unlike, errs[2] = Unlike(h.p, h.old, h.now)
	if errs != [3]api.Errno{} {
		t.Fatalf("%v: the calls answer %v", h.p, errs)
	}
	return a
}

func (a answers) same(b answers) bool {
	return samePuts(a.puts, b.puts) && sameChanges(a.changes, b.changes) && sameChanges(a.unlike, b.unlike)
}

// parts are all lists of bytes of the answers.
func (a answers) parts() [][]byte {
	var all [][]byte
	for _, x := range a.puts {
		all = append(all, x.Bytes)
	}
	for _, x := range slices.Concat(a.changes, a.unlike) {
		all = append(all, x.Data)
	}
	return all
}

// deep is a copy that shares nothing.
func (a answers) deep() answers {
	b := answers{slices.Clone(a.puts), slices.Clone(a.changes), slices.Clone(a.unlike)}
	for i := range b.puts {
		b.puts[i].Bytes = bytes.Clone(b.puts[i].Bytes)
	}
	for _, l := range [][]api.Change{b.changes, b.unlike} {
		for i := range l {
			l[i].Data = bytes.Clone(l[i].Data)
		}
	}
	return b
}

// remembering calls visit with rows of which every call answers something, some of whose cells are missing; and with what was made roomy of, as it was.
func remembering(visit func(p api.Params, r known, h, was handed)) {
	for _, p := range few() {
		n, width := p.K+p.R, p.K*p.Cell
		old, now := some(width, 6), some(width, 7)
		full := whole(p, 5, some(width, 5)).holding(p, 1, 1, with(same(p, 4), 7, n-1), old)
		for _, r := range []known{full, full.without(allCells(p)[:min(p.K, p.R)]...)} {
			for _, l := range [][]api.Change{changesOf(p, 1, p.K/2), changesOf(p, 2, allCells(p)...)} {
				was := handed{call{p, nil, 2, 7, 9, l}, old, now, 3, width - 3}
				h := was
				h.row, h.l, h.old, h.now = roomyRow(r), roomyChanges(l), roomy(old), roomy(now)
				visit(p, r, h, was)
			}
		}
	}
}

// untouched tells that nothing was changed of what was handed in.
func (h handed) untouched(r known, was handed) bool {
	return untouched(h.row, r) && untouchedChanges(h.l, was.l) && untouchedBytes(h.old, was.old) && untouchedBytes(h.now, was.now)
}

func TestP13_3OnlyReads(t *testing.T) {
	remembering(func(p api.Params, r known, h, was handed) {
		h.answered(t)
		for _, from := range []int{-1, 0, 4, 5, 7, 9, most + 1} {
			for _, to := range []int{-1, 0, 7, 8, most, most + 1} {
				for _, number := range []int{-1, 0, p.Rows} {
					Plan(p, h.row, number, from, to, h.l)
					Plan(p, h.row[1:], number, from, to, h.l)
					Plan(p, h.row, number, from, to, h.l[:0])
				}
			}
		}
		for _, at := range []int{-1, 0, 1, p.Cell, len(h.old), len(h.old) + 1} {
			for _, many := range []int{0, 1, p.Cell, len(h.now) - 1, len(h.now)} {
				Changes(p, h.old, at, h.now[:many])
				Changes(p, h.old[1:], at, h.now[:many])
				Unlike(p, h.old, h.now[:many])
			}
		}
		if !h.untouched(r, was) {
			t.Fatalf("%v: a call changes what was handed in", p)
		}
	})
}

func TestP13_3OnlyReadsMixedRows(t *testing.T) {
	mixedRows(20, func(p api.Params, r known, throw *dice) {
		row, was := roomyRow(r), changesOf(p, 1, someCells(p, throw)...)
		l := roomyChanges(was)
		for _, from := range []int{1, 3, 5, 8, most / 2} {
			Plan(p, row, 0, from, from+1, l)
			Plan(p, row, 0, from, most, l)
		}
		if !untouched(row, r) || !untouchedChanges(l, was) {
			t.Fatalf("%v: Plan changes what was handed in", p)
		}
	})
}

func TestP13_3LaterWritesIntoWhatWasHandedIn(t *testing.T) {
	remembering(func(p api.Params, r known, h, _ handed) {
		a := h.answered(t)
		want := a.deep()
		spoilRow(h.row)
		spoilChanges(h.l)
		spoil(h.old)
		spoil(h.now)
		if !a.same(want) {
			t.Fatalf("%v: a write into what was handed in changes an answer", p)
		}
	})
}

func TestP13_3WritesIntoAnswers(t *testing.T) {
	remembering(func(p api.Params, r known, h, was handed) {
		first, a := h.answered(t), h.answered(t)
		want := first.deep()
		for _, part := range a.parts() {
			spoil(part)
		}
		_ = append(a.puts, api.Put{Drive: 5})
		_ = append(a.changes, api.Change{Cell: 5})
		_ = append(a.unlike, api.Change{Cell: 5})
		clear(a.puts[:cap(a.puts)])
		clear(a.changes[:cap(a.changes)])
		clear(a.unlike[:cap(a.unlike)])
		if !h.untouched(r, was) {
			t.Fatalf("%v: a write into an answer changes what was handed in", p)
		}
		if !first.same(want) || !h.answered(t).same(want) {
			t.Fatalf("%v: a write into an answer changes another answer", p)
		}
	})
}

// A write into one part of an answer, and behind its end, changes no other part, neither of that answer nor of another call's.
func TestP13_3PartsOfAnswersApart(t *testing.T) {
	remembering(func(p api.Params, r known, h, _ handed) {
		for i := range h.answered(t).parts() {
			a := h.answered(t)
			want := a.deep()
			spoil(a.parts()[i])
			spoil(want.parts()[i])
			if !a.same(want) {
				t.Fatalf("%v: a write into the part %d of the answers changes another part", p, i)
			}
		}
	})
}

// What is handed in may share memory: slots within one memory, changes that are cells of the row, new bytes that are some of the old ones.
func TestP13_3HandedInWithinOneMemory(t *testing.T) {
	for _, p := range few() {
		width, size := p.K*p.Cell, sizeOf(p)
		r := whole(p, 7, some(width, 6)).holding(p, 1, 1, same(p, 6), some(width, 5))
		var drives []byte
		for _, two := range r.row() {
			drives = slices.Concat(drives, two[0], two[1])
		}
		row := make([]api.Pair, p.K+p.R)
		for drive := range row {
			at := 2 * drive * size
			row[drive] = api.Pair{drives[at : at+size], drives[at+size : at+2*size]}
		}
		was := bytes.Clone(drives)
		var l []api.Change
		for cell := range p.K {
			l = append(l, api.Change{Cell: cell, Data: drives[size-p.Cell : size]}) // all of them the cell 0 of the row
		}
		puts, err := Plan(p, row, 0, 7, 8, l)
		if want := r.wantPlan(p, 0, 7, 8, l); err != api.OK || !samePuts(puts, want) {
			t.Fatalf("%v: within one memory Plan is %v, %d, want %v", p, puts, err, want)
		}
		old := drives[:width:width]
		for _, x := range []struct{ at, from, many int }{{0, 0, width}, {1, 0, width - 1}, {0, 1, width - 1}, {p.Cell / 2, 0, p.Cell / 2}} {
			now := old[x.from : x.from+x.many]
			for _, x := range checkChanges(t, p, old, x.at, now) {
				spoil(x.Data)
			}
		}
		if len(drives) > width {
			for _, x := range checkUnlike(t, p, old, drives[1:width+1]) {
				spoil(x.Data)
			}
		}
		checkUnlike(t, p, old, old)
		for _, x := range puts {
			spoil(x.Bytes)
		}
		if !bytes.Equal(drives, was) {
			t.Fatalf("%v: a call, or a write into an answer, changes the drives", p)
		}
	}
}

// What was asked earlier changes no answer.
func TestP13_3NothingIsKept(t *testing.T) {
	var first []answers
	for round := range 3 {
		number := 0
		remembering(func(p api.Params, r known, h, _ handed) {
			a := h.answered(t)
			if round == 0 {
				first = append(first, a.deep())
			} else if !a.same(first[number]) {
				t.Fatalf("%v: what is asked again is answered otherwise", p)
			}
			number++
			for _, c := range rightCalls(exampleP()) {
				Plan(c.p, c.row, c.number, c.from, c.to, c.l)
			}
			wrongParams(func(q api.Params) { Plan(q, h.row, 0, 7, 8, h.l) })
		})
	}
}
