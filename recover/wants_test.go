package recover

import (
	"bytes"
	"fmt"
	"slices"
	"testing"

	"twoslot/api"
)

// bytesIn are the bytes of the object in a row.
func (k known) bytesIn(row int) ([]byte, api.Errno) {
	o, err := k.told(row)
	if err != api.OK {
		return nil, err
	}
	if b := o.bytes(); b != nil {
		return b, api.OK
	}
	return nil, api.ErrLost
}

// wantDescs are the rows of all descriptors that are in use, in their order.
func (k known) wantDescs() ([]int, api.Errno) {
	b, err := k.bytesIn(0)
	if err != api.OK {
		return nil, err
	}
	rows, is := readRows(k.p, b)
	if !is {
		return nil, 220
	}
	all := append([]int{0}, rows...)
	for _, row := range rows {
		b, err := k.bytesIn(row)
		if err != api.OK {
			return nil, err
		}
		l, is := readEntries(k.p, b)
		if !is {
			return nil, 220
		}
		for _, x := range l {
			all = append(all, x.Row)
		}
	}
	return all, api.OK
}

// wantFinished are the raw writes of a row that are still to be made.
func (k known) wantFinished(row int) []api.Put {
	r := k.rows[row]
	winner, runner := r.winner(k.p), r.runner(k.p)
	v, cells := r.vector(2, winner), r.cells(k.p, 2, winner)
	there, _ := r.there(2, winner)
	var all []api.Put
	for drive, cell := range cells {
		if there[drive] == nil {
			all = append(all, api.Put{Drive: drive, Row: row, Slot: r.slotFor(drive, runner), Bytes: bytesOf(slotOf(2, drive, v, cell))})
		}
	}
	return all
}

// wantPlan is the document's answer of Plan.
func (k known) wantPlan() ([]api.Put, api.Errno) {
	rows, err := k.wantDescs()
	if err != api.OK {
		return nil, err
	}
	for _, row := range rows {
		if _, err := k.told(row); err != api.OK {
			return nil, err
		}
	}
	var all []api.Put
	for _, row := range rows {
		all = append(all, k.wantFinished(row)...)
	}
	return all, api.OK
}

func samePuts(a, b []api.Put) bool {
	return slices.EqualFunc(a, b, func(x, y api.Put) bool {
		return x.Drive == y.Drive && x.Row == y.Row && x.Slot == y.Slot && bytes.Equal(x.Bytes, y.Bytes)
	})
}

// places are raw writes without their bytes, for a message.
func places(l []api.Put) string {
	text := fmt.Sprint(len(l), ":")
	for _, x := range l {
		text += fmt.Sprintf(" drive %d row %d slot %d (%d bytes %.20v)", x.Drive, x.Row, x.Slot, len(x.Bytes), x.Bytes)
	}
	return fmt.Sprintf("%.600s", text)
}

// answersWith holds both calls against the raw writes and the error that they must tell, zero values beside an error.
func answersWith(t *testing.T, m api.Image, want []api.Put, wants api.Errno, what ...any) {
	t.Helper()
	l, err := Plan(m)
	if err != wants || !samePuts(l, want) || err != api.OK && l != nil {
		t.Fatalf("%v: %v: Plan is %s, %d, want %s, %d", m.P, what, places(l), err, places(want), wants)
	}
	is, err := Done(m)
	if err != wants || is != (wants == api.OK && len(want) == 0) {
		t.Fatalf("%v: %v: Done is %v, %d, where there are %d raw writes, and the error %d", m.P, what, is, err, len(want), wants)
	}
}

// check holds both calls against the document's answers; it tells the raw writes.
func check(t *testing.T, k known, what ...any) []api.Put {
	t.Helper()
	want, wants := k.wantPlan()
	answersWith(t, k.image(), want, wants, what...)
	return want
}
