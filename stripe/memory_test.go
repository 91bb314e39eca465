package stripe

import (
	"bytes"
	"slices"
	"testing"

	"twoslot/api"
)

const spare = 20 // places behind the end of what is roomy

// roomy has spare room, in which bytes stand that nobody may change.
func roomy(b []byte) []byte {
	return append(bytes.Clone(b), filled(spare, 77)...)[:len(b)]
}

// roomyRow is a row all parts of which have spare room.
func roomyRow(r known) []api.Pair {
	var row []api.Pair
	for _, two := range r.row() {
		row = append(row, api.Pair{roomy(two[0]), roomy(two[1])})
	}
	return append(row, api.Pair{filled(spare, 77), filled(spare, 77)})[:len(row)]
}

// untouchedBytes tells whether roomy bytes are as they were, their spare room with them.
func untouchedBytes(b, was []byte) bool {
	return len(b) == len(was) && bytes.Equal(b[:len(b)+spare], append(bytes.Clone(was), filled(spare, 77)...))
}

// untouched tells so of a roomy row.
func untouched(row []api.Pair, r known) bool {
	for drive, two := range row {
		if !untouchedBytes(two[0], r[drive][0].bytes) || !untouchedBytes(two[1], r[drive][1].bytes) {
			return false
		}
	}
	behind := row[:len(row)+1][len(row)]
	return bytes.Equal(behind[0], filled(spare, 77)) && bytes.Equal(behind[1], filled(spare, 77))
}

// spoil writes into all of some bytes, their spare room with them, and behind their end.
func spoil(b []byte) {
	_ = append(b, 1, 2, 3)
	b = b[:cap(b)]
	for i := range b {
		b[i] ^= 0xff
	}
}

func spoilNumbers(v []int) {
	_ = append(v, 1, 2, 3)
	v = v[:cap(v)]
	for i := range v {
		v[i] = -v[i] - 5
	}
}

func spoilRow(row []api.Pair) {
	for drive := range row {
		spoil(row[drive][0])
		spoil(row[drive][1])
		row[drive] = api.Pair{filled(3, 3), nil}
	}
}

// answers are what all calls answered.
type answers struct {
	vector, numbers []int
	cells           [][]byte
	data            []byte
	full, mend      []api.Put
}

// answered makes all calls, none of which may be refused.
func answered(t *testing.T, c call) answers {
	t.Helper()
	var a answers
	var errs [6]api.Errno
	a.vector, _, errs[0] = Vector(c.p, c.row, c.kind, c.version)
	a.numbers, errs[1] = Present(c.p, c.row, c.kind, c.version)
	a.cells, errs[2] = Cells(c.p, c.row, c.kind, c.version)
	a.data, errs[3] = Read(c.p, c.row, c.kind, c.version)
	a.full, errs[4] = Full(c.p, c.row, c.number, c.kind, c.keep, c.version, c.data)
	a.mend, errs[5] = Mend(c.p, c.row, c.number, c.kind, c.keep, c.version)
	if errs != [6]api.Errno{} {
		t.Fatalf("%v: the calls answer %v", c.p, errs)
	}
	return a
}

func (a answers) same(b answers) bool {
	return slices.Equal(a.vector, b.vector) && slices.Equal(a.numbers, b.numbers) && sameCells(a.cells, b.cells) && bytes.Equal(a.data, b.data) && samePuts(a.full, b.full) && samePuts(a.mend, b.mend)
}

// parts are all lists of bytes and numbers of the answers, each with what spoils it.
func (a answers) parts() []func() {
	all := []func(){func() { spoilNumbers(a.vector) }, func() { spoilNumbers(a.numbers) }, func() { spoil(a.data) }}
	for _, cell := range a.cells {
		all = append(all, func() { spoil(cell) })
	}
	for _, x := range append(slices.Clone(a.full), a.mend...) {
		all = append(all, func() { spoil(x.Bytes) })
	}
	return all
}

// deep is a copy that shares nothing, without any spare room to speak of.
func (a answers) deep() answers {
	b := answers{vector: slices.Clone(a.vector), numbers: slices.Clone(a.numbers), data: bytes.Clone(a.data), full: slices.Clone(a.full), mend: slices.Clone(a.mend)}
	for _, cell := range a.cells {
		b.cells = append(b.cells, bytes.Clone(cell))
	}
	for i := range b.full {
		b.full[i].Bytes = bytes.Clone(b.full[i].Bytes)
	}
	for i := range b.mend {
		b.mend[i].Bytes = bytes.Clone(b.mend[i].Bytes)
	}
	return b
}

// remembering calls visit with rows of which every call answers something: two versions, some cells of the asked one missing.
func remembering(visit func(p api.Params, r known, c call)) {
	for _, p := range few() {
		n, data := p.K+p.R, some(p.K*p.Cell, 6)
		for _, kind := range []uint8{1, 2} {
			r := whole(p, kind, 5, some(p.K*p.Cell, 5)).holding(p, 1, kind, with(same(p, 4), 7, n-1), data)
			for drive := range p.R {
				r = r.without(drive)
			}
			visit(p, r, call{p, nil, 2, kind, 5, 7, data})
		}
	}
}

func TestP12_5OnlyReads(t *testing.T) {
	remembering(func(p api.Params, r known, c call) {
		c.row = roomyRow(r)
		was := c.data
		c.data = roomy(was)
		answered(t, c)
		for _, kind := range []uint8{0, 1, 2, 3} {
			for _, version := range []int{-1, 0, 4, 5, 7, 9, most, most + 1} {
				for _, keep := range []int{-1, 0, 4, 5, 7} {
					for _, number := range []int{-1, 0, p.Rows} {
						Vector(p, c.row, kind, version)
						Present(p, c.row, kind, version)
						Cells(p, c.row, kind, version)
						Read(p, c.row, kind, version)
						Full(p, c.row, number, kind, keep, version, c.data)
						Full(p, c.row, number, kind, keep, version, c.data[1:])
						Mend(p, c.row, number, kind, keep, version)
					}
				}
			}
		}
		if !untouched(c.row, r) || !untouchedBytes(c.data, was) {
			t.Fatalf("%v: a call changes what was handed in", p)
		}
	})
}

func TestP12_5OnlyReadsMixedRows(t *testing.T) {
	mixedRows(10, func(p api.Params, r known, throw *dice) {
		row := roomyRow(r)
		data := some(p.K*p.Cell, 1)
		for _, version := range versions() {
			for _, kind := range []uint8{1, 2} {
				Vector(p, row, kind, version)
				Present(p, row, kind, version)
				Cells(p, row, kind, version)
				Read(p, row, kind, version)
				Full(p, row, 0, kind, one(throw, versions()), version, data)
				Mend(p, row, 0, kind, one(throw, versions()), version)
			}
		}
		if !untouched(row, r) || !bytes.Equal(data, some(p.K*p.Cell, 1)) {
			t.Fatalf("%v: a call changes what was handed in", p)
		}
	})
}

func TestP12_5LaterWritesIntoWhatWasHandedIn(t *testing.T) {
	remembering(func(p api.Params, r known, c call) {
		c.row, c.data = roomyRow(r), roomy(c.data)
		a := answered(t, c)
		want := a.deep()
		spoilRow(c.row)
		spoil(c.data)
		if !a.same(want) {
			t.Fatalf("%v: a write into what was handed in changes an answer", p)
		}
	})
}

func TestP12_5WritesIntoAnswers(t *testing.T) {
	remembering(func(p api.Params, r known, c call) {
		c.row = roomyRow(r)
		was := c.data
		c.data = roomy(was)
		want := answered(t, c)
		a := answered(t, c)
		for _, spoilPart := range a.parts() {
			spoilPart()
		}
		clear(a.full)
		clear(a.mend)
		clear(a.cells)
		if !untouched(c.row, r) || !untouchedBytes(c.data, was) {
			t.Fatalf("%v: a write into an answer changes what was handed in", p)
		}
		if later := answered(t, c); !later.same(want) || !want.same(want.deep()) {
			t.Fatalf("%v: a write into an answer changes another answer", p)
		}
	})
}

// A write into one part of an answer, and behind its end, changes no other part, neither of that answer nor of another call's.
func TestP12_5PartsOfAnswersApart(t *testing.T) {
	remembering(func(p api.Params, r known, c call) {
		c.row = roomyRow(r)
		for i := range answered(t, c).parts() {
			a := answered(t, c)
			want := a.deep()
			a.parts()[i]()
			want.parts()[i]()
			if !a.same(want) {
				t.Fatalf("%v: a write into the part %d of the answers changes another part", p, i)
			}
		}
	})
}

// Rows whose slots stand within one memory, or are the same one, are read likewise.
func TestP12_5RowsWithinOneMemory(t *testing.T) {
	for _, p := range few() {
		data := some(p.K*p.Cell, 6)
		r := whole(p, 1, 7, data).holding(p, 1, 1, same(p, 6), data)
		var drives []byte
		for _, two := range r.row() {
			drives = slices.Concat(drives, two[0], two[1])
		}
		was, size := bytes.Clone(drives), sizeOf(p)
		row := make([]api.Pair, p.K+p.R)
		for drive := range row {
			at := 2 * drive * size
			row[drive] = api.Pair{drives[at : at+size], drives[at+size : at+2*size]}
		}
		a := answered(t, call{p, row, 0, 1, 6, 7, data})
		b := answered(t, call{p, r.row(), 0, 1, 6, 7, data})
		if !a.same(b) {
			t.Fatalf("%v: a row within one memory is answered otherwise", p)
		}
		for _, spoilPart := range a.parts() {
			spoilPart()
		}
		if !bytes.Equal(drives, was) {
			t.Fatalf("%v: a call, or a write into an answer, changes the drives", p)
		}
	}
}

// Data that stand in the row's own memory are only read, too.
func TestP12_5DataWithinTheRow(t *testing.T) {
	p := api.Params{K: 1, R: 1, Cell: 32, Rows: 8}
	r := whole(p, 1, 7, some(32, 1))
	row := r.row()
	held := row[0][0]
	was := bytes.Clone(held)
	puts, err := Full(p, row, 0, 1, 7, 8, held[len(held)-32:])
	if err != api.OK || !bytes.Equal(held, was) || !samePuts(puts, r.wantPuts(0, 1, 7, same(p, 8), cellsOf(p, some(32, 1)))) {
		t.Fatalf("Full of data within the row is %v, %d", puts, err)
	}
}

// What was asked earlier changes no answer.
func TestP12_5NothingIsKept(t *testing.T) {
	first := map[api.Params]answers{}
	for range 3 {
		remembering(func(p api.Params, r known, c call) {
			if c.row = r.row(); c.kind != 1 {
				return
			}
			a := answered(t, c)
			if before, is := first[p]; is && !a.same(before) {
				t.Fatalf("%v: what is asked again is answered otherwise", p)
			}
			first[p] = a.deep()
			for _, x := range rightCalls(exampleP()) {
				answered(t, x)
			}
		})
	}
}
