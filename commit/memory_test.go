package commit

import (
	"bytes"
	"slices"
	"testing"

	"twoslot/api"
)

const spare = 20 // places behind the end of what is roomy

// roomy has spare room, in which bytes stand that nobody may change.
func roomy(b []byte) []byte {
	return append(bytes.Clone(b), filled(spare, 77)...)[:len(b)]
}

// roomyRow is a row all parts of which have spare room.
func roomyRow(r known) []api.Pair {
	var row []api.Pair
	for _, two := range r.row() {
		row = append(row, api.Pair{roomy(two[0]), roomy(two[1])})
	}
	return append(row, api.Pair{filled(spare, 77), filled(spare, 77)})[:len(row)]
}

// spareRefs stand in the spare room of Refs.
func spareRefs() []api.Ref { return slices.Repeat([]api.Ref{{Row: 77, Version: 78}}, spare) }

// roomyDesc is a descriptor whose Refs have spare room.
func roomyDesc(d api.Desc) api.Desc {
	d.Refs = append(slices.Clone(d.Refs), spareRefs()...)[:len(d.Refs)]
	return d
}

// untouched tells whether a roomy row is as it was, its spare room with it.
func untouched(row []api.Pair, r known) bool {
	for drive, two := range row {
		for number, b := range two {
			was := r[drive][number].bytes
			if len(b) != len(was) || !bytes.Equal(b[:len(b)+spare], append(bytes.Clone(was), filled(spare, 77)...)) {
				return false
			}
		}
	}
	behind := row[:len(row)+1][len(row)]
	return bytes.Equal(behind[0], filled(spare, 77)) && bytes.Equal(behind[1], filled(spare, 77))
}

// untouchedDesc does so with a roomy descriptor.
func untouchedDesc(d, was api.Desc) bool {
	return sameDesc(d, was) && slices.Equal(d.Refs[:len(d.Refs)+spare], append(slices.Clone(was.Refs), spareRefs()...))
}

// spoil writes into all bytes, their spare room with them, and behind their end.
func spoil(b []byte) {
	_ = append(b, 1, 2, 3)
	b = b[:cap(b)]
	for i := range b {
		b[i] ^= 0xff
	}
}

// spoilRefs does so with Refs.
func spoilRefs(l []api.Ref) {
	_ = append(l, api.Ref{Row: 1, Version: 1}, api.Ref{Row: 2, Version: 2})
	l = l[:cap(l)]
	for i := range l {
		l[i] = api.Ref{Row: -l[i].Row - 5, Version: -5}
	}
}

// spoilPuts does so with raw writes, not with the bytes of each.
func spoilPuts(l []api.Put) {
	_ = append(l, api.Put{Drive: 1}, api.Put{Drive: 2})
	l = l[:cap(l)]
	for i := range l {
		l[i] = api.Put{Drive: -5, Row: -5, Slot: -5, Bytes: []byte{5}}
	}
}

func spoilRow(row []api.Pair) {
	for drive := range row {
		for number := range 2 {
			spoil(row[drive][number])
		}
		row[drive] = api.Pair{filled(3, 3), nil}
	}
}

// answers are all lists that the calls answered.
type answers struct {
	puts, left []api.Put
	d          api.Desc
}

// answered makes all calls, none of which may be refused.
func answered(t *testing.T, p api.Params, row []api.Pair, d api.Desc) answers {
	t.Helper()
	var a answers
	var errs [3]api.Errno
	a.puts, errs[0] = Puts(p, row, 3, 9, d)
	a.left, errs[1] = Finish(p, row, 4)
	a.d, _, errs[2] = Read(p, row)
	if errs != [3]api.Errno{} {
		t.Fatalf("%v: the calls answer %v", p, errs)
	}
	return a
}

func (a answers) same(b answers) bool {
	return samePuts(a.puts, b.puts) && samePuts(a.left, b.left) && sameDesc(a.d, b.d)
}

// deep is a copy that shares nothing.
func (a answers) deep() answers {
	b := answers{puts: slices.Clone(a.puts), left: slices.Clone(a.left), d: a.d}
	for _, l := range [][]api.Put{b.puts, b.left} {
		for i := range l {
			l[i].Bytes = bytes.Clone(l[i].Bytes)
		}
	}
	b.d.Refs = slices.Clone(b.d.Refs)
	return b
}

// parts are the bytes of all raw writes of the answers.
func (a answers) parts() [][]byte {
	var all [][]byte
	for _, x := range slices.Concat(a.puts, a.left) {
		all = append(all, x.Bytes)
	}
	return all
}

// remembering calls visit with rows of which every call answers something (without parity Finish nothing), and with descriptors.
func remembering(visit func(p api.Params, r known, d api.Desc)) {
	for _, p := range few() {
		n := p.K + p.R
		long := wantBytes(p, descOf(p, measured(p).most, 3))
		for _, d := range []api.Desc{{}, descOf(p, measured(p).width+1, 5), descOf(p, measured(p).most, 6)} {
			visit(p, blank(p).having(p, 0, 2, 5, long, upTo(0, p.K)...), d)
			visit(p, blank(p).having(p, 1, 2, 5, long, upTo(p.R, n)...).holding(p, 0, 3, upTo(0, n)...), d)
			visit(p, blank(p).holding(p, 0, 6, upTo(0, n)...).holding(p, 1, 8, upTo(0, p.K)...), d)
			visit(p, blank(p).having(p, 0, 1, 8, long, upTo(0, n)...).having(p, 1, 2, 8, long, upTo(0, p.K)...), d)
		}
	}
}

func TestP16_4OnlyReads(t *testing.T) {
	remembering(func(p api.Params, r known, d api.Desc) {
		row, in := roomyRow(r), roomyDesc(d)
		for _, by := range []api.Params{p, {}, exampleP()} {
			for _, part := range [][]api.Pair{row, row[1:], nil} {
				Read(by, part)
				for _, number := range []int{0, p.Rows - 1, p.Rows, -1} {
					Finish(by, part, number)
					for _, version := range []int{5, 9, most, most + 1, 0} {
						Puts(by, part, number, version, in)
						Puts(by, part, number, version, api.Desc{Length: 1 << 20, Refs: in.Refs})
					}
				}
			}
			Point(by)
		}
		if !untouched(row, r) || !untouchedDesc(in, d) {
			t.Fatalf("%v: a call changes the row%s, or %s", p, r.told(), toldDesc(d))
		}
	})
}

func TestP16_4LaterWritesIntoWhatWasHandedIn(t *testing.T) {
	remembering(func(p api.Params, r known, d api.Desc) {
		row, in := roomyRow(r), roomyDesc(d)
		a := answered(t, p, row, in)
		spoilRow(row)
		spoilRefs(in.Refs)
		puts, _ := r.wantPuts(p, 3, 9, d)
		left, _ := r.wantFinish(p, 4)
		read, _, _ := r.wantRead(p)
		if !a.same(answers{puts, left, read}) {
			t.Fatalf("%v: a write into the row%s, or into %s, changes an answer", p, r.told(), toldDesc(d))
		}
	})
}

func TestP16_4WritesIntoAnswers(t *testing.T) {
	remembering(func(p api.Params, r known, d api.Desc) {
		row, in := roomyRow(r), roomyDesc(d)
		kept := answered(t, p, row, in)
		want := kept.deep()
		a := answered(t, p, row, in)
		for _, part := range a.parts() {
			spoil(part)
		}
		spoilRefs(a.d.Refs)
		spoilPuts(a.puts)
		spoilPuts(a.left)
		if !untouched(row, r) || !untouchedDesc(in, d) {
			t.Fatalf("%v: a write into an answer changes the row%s, or %s", p, r.told(), toldDesc(d))
		}
		if later := answered(t, p, row, in); !kept.same(want) || !later.same(want) {
			t.Fatalf("%v: a write into an answer changes another answer", p)
		}
	})
}

// A write into one list of the answers, and behind its end, changes no other one.
func TestP16_4PartsOfAnswersApart(t *testing.T) {
	remembering(func(p api.Params, r known, d api.Desc) {
		row := r.row()
		a := answered(t, p, row, d)
		want := a.deep()
		for i := range a.parts() {
			spoil(a.parts()[i])
			spoil(want.parts()[i])
			if !a.same(want) {
				t.Fatalf("%v: a write into the bytes %d of the answers changes others", p, i)
			}
		}
		spoilRefs(a.d.Refs)
		spoilRefs(want.d.Refs)
		if !a.same(want) {
			t.Fatalf("%v: a write into the Refs changes another list", p)
		}
		parts := a.parts()
		spoilPuts(a.puts)
		spoilPuts(a.left)
		if !slices.EqualFunc(parts, want.parts(), bytes.Equal) {
			t.Fatalf("%v: a write into the raw writes changes their bytes", p)
		}
	})
}

// An append to the bytes of a raw write stands behind these alone; one to the raw writes, and to the Refs, too.
func TestP16_4Appends(t *testing.T) {
	remembering(func(p api.Params, r known, d api.Desc) {
		row := roomyRow(r)
		a := answered(t, p, row, d)
		want := a.deep()
		for _, l := range [][]api.Put{a.puts, a.left} {
			for i := range l {
				_ = append(l[i].Bytes, filled(50, byte(i))...)
			}
			_ = append(l, api.Put{Drive: 9})
		}
		_ = append(a.d.Refs, api.Ref{Row: 9, Version: 9})
		if !a.same(want) || !untouched(row, r) {
			t.Fatalf("%v: an append to a part of the answers changes another one, or the row", p)
		}
	})
}

// Rows whose slots stand within one memory are read likewise, and none of it is changed.
func TestP16_4RowsWithinOneMemory(t *testing.T) {
	for _, p := range few() {
		n := p.K + p.R
		r := blank(p).holding(p, 0, 5, upTo(0, n)...).holding(p, 1, 7, upTo(0, n)...)
		var drives []byte
		for _, two := range r.row() {
			drives = slices.Concat(drives, two[0], two[1])
		}
		was, size := bytes.Clone(drives), sizeOf(p)
		row := make([]api.Pair, n)
		for drive := range row {
			at := 2 * drive * size
			row[drive] = api.Pair{drives[at : at+size], drives[at+size : at+2*size]}
		}
		for drive := range p.R {
			row[drive][1] = nil // so that there is something to finish
			r[drive][1] = content{}
		}
		a := answered(t, p, row, byVersion(p, 6))
		if !a.same(answered(t, p, r.row(), byVersion(p, 6))) {
			t.Fatalf("%v: a row within one memory is answered otherwise", p)
		}
		for _, part := range a.parts() {
			spoil(part)
		}
		spoilRefs(a.d.Refs)
		if !bytes.Equal(drives, was) {
			t.Fatalf("%v: a call, or a write into an answer, changes the drives", p)
		}
	}
}

// What was asked earlier changes no answer.
func TestP16_4NothingIsKept(t *testing.T) {
	var first []answers
	for round := range 3 {
		number := 0
		remembering(func(p api.Params, r known, d api.Desc) {
			a := answered(t, p, r.row(), d)
			if round == 0 {
				first = append(first, a.deep())
			} else if !a.same(first[number]) {
				t.Fatalf("%v: what is asked again is answered otherwise", p)
			}
			number++
			answered(t, exampleP(), rightRow(exampleP()).row(), api.Desc{})
			refusedRead(t, p, blank(p).row(), api.ErrLost)
			refusedRead(t, api.Params{}, r.row(), api.ErrParams)
		})
	}
}
