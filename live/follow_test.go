package live

import (
	"bytes"
	"slices"
	"testing"

	"twoslot/api"
	"twoslot/census"
	"twoslot/commit"
	"twoslot/dir"
	"twoslot/edit"
	"twoslot/image"
	"twoslot/object"
	"twoslot/rows"
	"twoslot/stripe"
)

// agrees holds the calls against one another, where they are not refused; it tells whether what is live was told.
func agrees(t *testing.T, m api.Image, names ...string) bool {
	t.Helper()
	agreesOnNames(t, m, names...)
	of, err1 := Buckets(m)
	descs, err2 := Descs(m)
	lives, err3 := Stripes(m)
	all, err4 := Rows(m)
	if err4 != err3 || err1 != api.OK && err2 != err1 || err2 != api.OK && err3 != err2 {
		t.Fatalf("%v: the errors are %d, %d, %d, %d", m.P, err1, err2, err3, err4)
	}
	if err2 == api.OK && (descs[0] != 0 || !slices.Equal(descs[1:1+buckets], of)) {
		t.Fatalf("%v: Descs are %v, Buckets %v", m.P, descs, of)
	}
	if err3 != api.OK {
		return false
	}
	if !slices.Equal(all, rowsOf(m.P, lives)) {
		t.Fatalf("%v: Rows are %v, Stripes %v", m.P, all, lives)
	}
	next, err := Next(m)
	for _, its := range lives {
		if its.Kind == api.KindData {
			continue
		}
		pairs, _ := image.Row(m, its.Row)
		if winner, is, _ := census.Winner(m.P, pairs); !is || winner != its.Version || next <= winner || err != api.OK {
			t.Fatalf("%v: Stripes tell %v of the row %d, whose winner is %d; Next is %d, %d", m.P, its, its.Row, winner, next, err)
		}
	}
	return true
}

// agreesOnNames tells that a name is found just where Entries of its bucket have it.
func agreesOnNames(t *testing.T, m api.Image, names ...string) {
	t.Helper()
	of, err := Buckets(m)
	if err != api.OK {
		return
	}
	for bucket := range buckets {
		l, err := Entries(m, bucket)
		asked := slices.Clone(names)
		for _, x := range l {
			asked = append(asked, x.Name)
		}
		for _, name := range asked {
			if bucketOf(name) != bucket {
				continue
			}
			want := found{err: err}
			if err == api.OK {
				want.bucket = of[bucket]
				if i := slices.IndexFunc(l, func(x api.Entry) bool { return x.Name == name }); i >= 0 {
					want.row, want.is = l[i].Row, true
				}
			}
			if got := foundIn(m, name); got != want {
				t.Fatalf("%v: Find of %q is %v, want %v: Entries of the bucket %d are %v", m.P, name, got, want, bucket, l)
			}
		}
	}
}

func TestP23_5Stores(t *testing.T) {
	t.Parallel()
	for _, p := range few() {
		if p.Rows > 100 {
			p.Rows = 40
		}
		for seed := range 20 {
			if !agrees(t, standing(p, seed).image(), plain()...) {
				t.Fatalf("%v: a right image is refused", p)
			}
		}
		agrees(t, directory(p, 9).image(), names()...)
		agrees(t, blank(p).image(), names()...)
	}
}

func TestP23_5MixedImages(t *testing.T) {
	t.Parallel()
	told := 0
	mixedImages(60, func(k known) {
		if agrees(t, k.image(), "a", "b", "c", "d", "e", "f", "g", "ab", "object") {
			told++
		}
	})
	if told < 100 {
		t.Fatalf("only %d images were told", told)
	}
}

// hand is a store that is written by hand, with the calls of the layers below alone.
type hand struct {
	t       *testing.T
	m       api.Image
	buckets []int
	entries [buckets][]api.Entry
	bytes   map[string][]byte
}

// put makes raw writes, and tells ahead of each one, and behind it, that what is live is either what it was or what it is to be.
func (h *hand) put(l []api.Put, now hand) {
	h.t.Helper()
	k, _ := commit.Point(h.m.P)
	point := len(l) - (h.m.P.K + h.m.P.R) + k // of the last descriptor
	m := h.m
	for i, x := range l {
		if i < point {
			h.shows(m)
		} else {
			now.shows(m)
		}
		m, _ = image.Put(m, x)
	}
	was, _ := Next(h.m)
	if next, err := Next(m); next != was+1 || err != api.OK {
		h.t.Fatalf("%v: Next is %d, %d behind raw writes of the version %d", m.P, next, err, was)
	}
	now.m = m
	now.shows(m)
	*h = now
}

// shows tells that an image shows just this directory, and that its objects have their bytes.
func (h *hand) shows(m api.Image) {
	h.t.Helper()
	if !agrees(h.t, m, "a", "b", "zz") {
		h.t.Fatalf("%v: the image is refused", m.P)
	}
	if of, err := Buckets(m); !alike(of, h.buckets, err, 0) {
		h.t.Fatalf("%v: Buckets are %v, %d, want %v", m.P, of, err, h.buckets)
	}
	for bucket, want := range h.entries {
		if l, err := Entries(m, bucket); !alike(l, want, err, 0) {
			h.t.Fatalf("%v: Entries of %d are %v, %d, want %v", m.P, bucket, l, err, want)
		}
		for _, x := range want {
			if b, err := object.Bytes(m, x.Row); !bytes.Equal(b, h.bytes[x.Name]) || err != api.OK {
				h.t.Fatalf("%v: %q has the bytes %v, %d, want %v", m.P, x.Name, b, err, h.bytes[x.Name])
			}
		}
	}
}

// formatted is an empty store.
func formatted(t *testing.T, p api.Params) hand {
	t.Helper()
	m, _ := image.Blank(p)
	write := func(l []api.Put, err api.Errno) {
		if err != api.OK {
			t.Fatalf("the raw writes are refused: %d", err)
		}
		m, _ = image.After(m, l, len(l))
	}
	blanks := make([]api.Pair, p.K+p.R)
	for row := 1; row <= buckets; row++ {
		write(commit.Puts(p, blanks, row, 1, api.Desc{}))
	}
	b, _ := dir.Root(p, []int{1, 2, 3, 4})
	write(stripe.Full(p, blanks, 5, api.KindData, 0, 1, append(b, make([]byte, p.K*p.Cell-len(b))...)))
	write(commit.Puts(p, blanks, 0, 1, api.Desc{Length: 8, Refs: []api.Ref{{Row: 5, Version: 1}}}))
	return hand{t: t, m: m, buckets: []int{1, 2, 3, 4}, bytes: map[string][]byte{}}
}

// clone shares nothing that is changed.
func (h *hand) clone() hand {
	now := *h
	now.bytes = map[string][]byte{}
	for name, b := range h.bytes {
		now.bytes[name] = b
	}
	return now
}

// free are the rows that are not in use.
func (h *hand) free() []int {
	used, err1 := Rows(h.m)
	free, err2 := rows.Free(h.m.P, used)
	if err1 != api.OK || err2 != api.OK {
		h.t.Fatalf("%v: the free rows are refused: %d, %d", h.m.P, err1, err2)
	}
	return free
}

// create makes an object; false: no rows were free.
func (h *hand) create(name string) bool {
	h.t.Helper()
	version, _ := Next(h.m)
	_, at, _, _ := Find(h.m, name)
	free := h.free()
	if len(free) < 1 {
		return false
	}
	now, bucket := h.clone(), bucketOf(name)
	now.entries[bucket] = put(h.entries[bucket], entry(name, free[0]))
	now.bytes[name] = nil
	pairs, _ := image.Row(h.m, free[0])
	first, err1 := commit.Puts(h.m.P, pairs, free[0], version, api.Desc{})
	second, _, _, err2 := edit.Whole(h.m, at, free[1:], version, asBytes(now.entries[bucket]))
	if err1 != api.OK || err2 == api.ErrTooBig {
		h.t.Fatalf("%v: Create of %q is refused: %d, %d", h.m.P, name, err1, err2)
	}
	if err2 == api.OK {
		h.put(slices.Concat(first, second), now)
	}
	return err2 == api.OK
}

// write gives an object these bytes from a place on.
func (h *hand) write(name string, off int, data []byte) bool {
	h.t.Helper()
	version, _ := Next(h.m)
	at, _, is, _ := Find(h.m, name)
	if !is {
		h.t.Fatalf("%v: %q is not found", h.m.P, name)
	}
	now := h.clone()
	b := append(bytes.Clone(h.bytes[name]), make([]byte, max(0, off+len(data)-len(h.bytes[name])))...)
	copy(b[off:], data)
	now.bytes[name] = b
	l, _, _, err := edit.Set(h.m, at, h.free(), version, len(b), off, data)
	if err == api.OK {
		h.put(l, now)
	}
	return err == api.OK
}

// remove takes an entry away.
func (h *hand) remove(name string) {
	h.t.Helper()
	version, _ := Next(h.m)
	_, at, is, _ := Find(h.m, name)
	now, bucket := h.clone(), bucketOf(name)
	now.entries[bucket] = slices.DeleteFunc(slices.Clone(h.entries[bucket]), func(x api.Entry) bool { return x.Name == name })
	delete(now.bytes, name)
	l, _, _, err := edit.Whole(h.m, at, h.free(), version, asBytes(now.entries[bucket]))
	if !is || err != api.OK {
		h.t.Fatalf("%v: Delete of %q is refused: %v, %d", h.m.P, name, is, err)
	}
	h.put(l, now)
}

// Stores that the layers below write, call by call: at each raw write what is live is what it was, and from the K-th one of the last descriptor on what it is to be.
func TestP23_5ByTheLayersBelow(t *testing.T) {
	t.Parallel()
	created, written := 0, 0
	for _, p := range few() {
		p.Rows = max(10, min(p.Rows, 24))
		throw := dice(p.K + 7*p.Cell)
		h := formatted(t, p)
		for turn := range 16 {
			name := one(&throw, []string{"a", "b", "ab", "\x00", "object", "e", "zz"})
			_, is := h.bytes[name]
			switch {
			case !is:
				if h.create(name) {
					created++
				}
			case throw.below(4) == 0:
				h.remove(name)
			default:
				width := measured(p).width
				if h.write(name, throw.below(min(width, measured(p).most-width)), some(1+throw.below(width), turn)) {
					written++
				}
			}
			whole, err := Whole(h.m)
			if !whole || err != api.OK {
				t.Fatalf("%v: Whole is %v, %d", p, whole, err)
			}
		}
	}
	if created < 25 || written < 20 {
		t.Fatalf("%d objects were created, %d times one was written", created, written)
	}
}
