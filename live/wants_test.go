package live

import (
	"fmt"
	"slices"
	"testing"

	"twoslot/api"
)

// bytesIn are the bytes of the object in a row.
func (k known) bytesIn(row int) ([]byte, api.Errno) {
	o, err := k.told(row)
	if err != api.OK {
		return nil, err
	}
	if b := o.bytes(); b != nil {
		return b, api.OK
	}
	return nil, api.ErrLost
}

func (k known) wantBuckets() ([]int, api.Errno) {
	b, err := k.bytesIn(0)
	if err != api.OK {
		return nil, err
	}
	rows, is := readRows(k.p, b)
	if !is {
		return nil, 220
	}
	return rows, api.OK
}

func (k known) wantEntries(bucket int) ([]api.Entry, api.Errno) {
	if bucket < 0 || bucket > 3 {
		return nil, 2
	}
	rows, err := k.wantBuckets()
	if err != api.OK {
		return nil, err
	}
	b, err := k.bytesIn(rows[bucket])
	if err != api.OK {
		return nil, err
	}
	l, is := readEntries(k.p, b)
	if !is {
		return nil, 220
	}
	return l, api.OK
}

// found is what Find answers.
type found struct {
	row, bucket int
	is          bool
	err         api.Errno
}

func foundIn(m api.Image, name string) found {
	row, bucket, is, err := Find(m, name)
	return found{row, bucket, is, err}
}

func (k known) wantFind(name string) found {
	if len(name) == 0 || len(name) > longest {
		return found{err: 6}
	}
	rows, err := k.wantBuckets()
	if err != api.OK {
		return found{err: err}
	}
	l, err := k.wantEntries(bucketOf(name))
	if err != api.OK {
		return found{err: err}
	}
	for _, x := range l {
		if x.Name == name {
			return found{x.Row, rows[bucketOf(name)], true, api.OK}
		}
	}
	return found{bucket: rows[bucketOf(name)]}
}

func (k known) wantDescs() ([]int, api.Errno) {
	rows, err := k.wantBuckets()
	if err != api.OK {
		return nil, err
	}
	all := append([]int{0}, rows...)
	for bucket := range buckets {
		l, err := k.wantEntries(bucket)
		if err != api.OK {
			return nil, err
		}
		for _, x := range l {
			all = append(all, x.Row)
		}
	}
	return all, api.OK
}

func (k known) wantStripes() ([]api.Live, api.Errno) {
	rows, err := k.wantDescs()
	if err != api.OK {
		return nil, err
	}
	var all []api.Live
	for _, row := range rows {
		o, err := k.told(row)
		if err != api.OK {
			return nil, err
		}
		all = append(all, livesOf(row, o.version, o.leaves, o.stripes)...)
	}
	return all, api.OK
}

// livesOf is all that is live of an object.
func livesOf(row, version int, leaves, stripes []api.Ref) []api.Live {
	all := []api.Live{{Row: row, Kind: 2, Version: version}}
	for _, refs := range [][]api.Ref{leaves, stripes} {
		for _, at := range refs {
			all = append(all, api.Live{Row: at.Row, Kind: 1, Version: at.Version})
		}
	}
	return all
}

// rowsOf are the rows that some of what is live stands in: of all rows those that are named.
func rowsOf(p api.Params, lives []api.Live) []int {
	var rows []int
	for row := range p.Rows {
		if slices.ContainsFunc(lives, func(its api.Live) bool { return its.Row == row }) {
			rows = append(rows, row)
		}
	}
	return rows
}

func (k known) wantRows() ([]int, api.Errno) {
	lives, err := k.wantStripes()
	if err != api.OK {
		return nil, err
	}
	return rowsOf(k.p, lives), api.OK
}

func (k known) wantNext() int {
	next := 1
	for _, drives := range k.rows {
		for drive, two := range drives {
			for _, c := range two {
				if !c.of(1, drive) && !c.of(2, drive) {
					continue
				}
				for _, version := range append([]int{c.slot.Cell, c.slot.Stripe}, c.slot.Vector...) {
					if version >= next {
						next = version + 1
					}
				}
			}
		}
	}
	return next
}

// isThere tells whether a cell of a stripe is there, and the stripe is told.
func (k known) isThere(its api.Live, drive int) bool {
	line := k.rows[its.Row]
	v := line.vector(its.Kind, its.Version)
	return v != nil && slices.ContainsFunc(line[drive][:], func(c content) bool { return c.of(its.Kind, drive) && c.slot.Cell == v[drive] })
}

func (k known) wantWhole() (bool, api.Errno) {
	lives, err := k.wantStripes()
	if err != api.OK {
		return false, err
	}
	for _, its := range lives {
		for drive := range k.p.K + k.p.R {
			if !k.isThere(its, drive) {
				return false, api.OK
			}
		}
	}
	return true, api.OK
}

// shown is a list for a message.
func shown[T any](l []T) string { return fmt.Sprintf("%d: %.600s", len(l), fmt.Sprint(l)) }

// alike tells whether an answer is what it must be, and nil beside an error.
func alike[T comparable](l, want []T, err, wants api.Errno) bool {
	return slices.Equal(l, want) && err == wants && (err == api.OK || l == nil)
}

func checkBuckets(t *testing.T, k known, m api.Image) {
	t.Helper()
	rows, err := Buckets(m)
	if want, wants := k.wantBuckets(); !alike(rows, want, err, wants) {
		t.Fatalf("%v: Buckets are %s, %d, want %s, %d", k.p, shown(rows), err, shown(want), wants)
	}
}

func checkEntries(t *testing.T, k known, m api.Image, bucket int) {
	t.Helper()
	l, err := Entries(m, bucket)
	if want, wants := k.wantEntries(bucket); !alike(l, want, err, wants) {
		t.Fatalf("%v: Entries of the bucket %d are %s, %d, want %s, %d", k.p, bucket, shown(l), err, shown(want), wants)
	}
}

func checkFind(t *testing.T, k known, m api.Image, name string) {
	t.Helper()
	if its, want := foundIn(m, name), k.wantFind(name); its != want {
		t.Fatalf("%v: Find of %.40q is %v, want %v", k.p, name, its, want)
	}
}

func checkDescs(t *testing.T, k known, m api.Image) {
	t.Helper()
	rows, err := Descs(m)
	if want, wants := k.wantDescs(); !alike(rows, want, err, wants) {
		t.Fatalf("%v: Descs are %s, %d, want %s, %d", k.p, shown(rows), err, shown(want), wants)
	}
}

func checkStripes(t *testing.T, k known, m api.Image) {
	t.Helper()
	lives, err := Stripes(m)
	if want, wants := k.wantStripes(); !alike(lives, want, err, wants) {
		t.Fatalf("%v: Stripes are %s, %d, want %s, %d", k.p, shown(lives), err, shown(want), wants)
	}
}

func checkRows(t *testing.T, k known, m api.Image) {
	t.Helper()
	rows, err := Rows(m)
	if want, wants := k.wantRows(); !alike(rows, want, err, wants) {
		t.Fatalf("%v: Rows are %s, %d, want %s, %d", k.p, shown(rows), err, shown(want), wants)
	}
}

func checkNext(t *testing.T, k known, m api.Image) {
	t.Helper()
	if next, err := Next(m); next != k.wantNext() || err != api.OK {
		t.Fatalf("%v: Next is %d, %d, want %d", k.p, next, err, k.wantNext())
	}
}

func checkWhole(t *testing.T, k known, m api.Image) {
	t.Helper()
	is, err := Whole(m)
	if want, wants := k.wantWhole(); is != want || err != wants {
		t.Fatalf("%v: Whole is %v, %d, want %v, %d", k.p, is, err, want, wants)
	}
}

// check holds all calls against the document's answers, also of some names.
func check(t *testing.T, k known, names ...string) {
	t.Helper()
	m := k.image()
	checkBuckets(t, k, m)
	for bucket := -1; bucket <= buckets; bucket++ {
		checkEntries(t, k, m, bucket)
	}
	for _, name := range names {
		checkFind(t, k, m, name)
	}
	checkDescs(t, k, m)
	checkStripes(t, k, m)
	checkRows(t, k, m)
	checkNext(t, k, m)
	checkWhole(t, k, m)
}

// refuses tells that all calls are refused with an error, and with zero values beside it.
func refuses(t *testing.T, m api.Image, err api.Errno) {
	t.Helper()
	rows1, err1 := Buckets(m)
	rows2, err2 := Descs(m)
	rows3, err3 := Rows(m)
	lives, err4 := Stripes(m)
	whole, err5 := Whole(m)
	if rows1 != nil || rows2 != nil || rows3 != nil || lives != nil || whole {
		t.Fatalf("%v: beside an error stand %v, %v, %v, %v, %v", m.P, rows1, rows2, rows3, lives, whole)
	}
	if all := []api.Errno{err1, err2, err3, err4, err5}; !slices.Equal(all, slices.Repeat([]api.Errno{err}, 5)) {
		t.Fatalf("%v: the errors are %v, want %d", m.P, all, err)
	}
	for bucket := range buckets {
		if l, got := Entries(m, bucket); l != nil || got != err {
			t.Fatalf("%v: Entries of the bucket %d are %v, %d, want none and %d", m.P, bucket, l, got, err)
		}
	}
	for _, name := range []string{"a", "b", "c", "d"} {
		if its := foundIn(m, name); its != (found{err: err}) {
			t.Fatalf("%v: Find of %q is %v, want nothing and %d", m.P, name, its, err)
		}
	}
}
