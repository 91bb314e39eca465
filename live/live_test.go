package live

import (
	"maps"
	"slices"
	"strings"
	"testing"

	"twoslot/api"
)

// emptyStore is the image M of the document's table: an empty store of the version 1.
func emptyStore() known {
	p := exampleP()
	k := blank(p)
	for row := 1; row <= 4; row++ {
		k = k.whole(row, 0, 2, 1, descBytes(p, api.Desc{}))
	}
	k = k.whole(5, 0, 1, 1, append(rowBytes(1, 2, 3, 4), make([]byte, 24)...))
	return k.whole(0, 0, 2, 1, descBytes(p, api.Desc{Length: 8, Refs: []api.Ref{{Row: 5, Version: 1}}}))
}

// oneName is the image N: the same with an object ab.
func oneName() known {
	k := emptyStore()
	k = k.whole(6, 0, 2, 2, descBytes(k.p, api.Desc{}))
	k = k.whole(7, 0, 1, 2, append(asBytes([]api.Entry{entry("ab", 6)}), make([]byte, 27)...))
	return k.whole(4, 1, 2, 2, descBytes(k.p, api.Desc{Length: 5, Refs: []api.Ref{{Row: 7, Version: 2}}}))
}

func TestP23_1Examples(t *testing.T) {
	m, n := emptyStore().image(), oneName().image()
	if rows, err := Buckets(m); !alike(rows, []int{1, 2, 3, 4}, err, 0) {
		t.Error(rows, err)
	}
	if l, err := Entries(m, 0); len(l) != 0 || err != 0 {
		t.Error(l, err)
	}
	if l, err := Entries(m, 4); l != nil || err != api.ErrParams {
		t.Error(l, err)
	}
	if rows, err := Buckets(blank(exampleP()).image()); rows != nil || err != api.ErrLost {
		t.Error(rows, err)
	}
	for name, want := range map[string]found{"ab": {6, 4, true, 0}, "a": {0, 2, false, 0}, "": {0, 0, false, api.ErrName}} {
		if its := foundIn(n, name); its != want {
			t.Errorf("%q: %v", name, its)
		}
	}
	if l, err := Entries(n, 3); !alike(l, []api.Entry{entry("ab", 6)}, err, 0) {
		t.Error(l, err)
	}
}

func TestP23_2Examples(t *testing.T) {
	m, n := emptyStore().image(), oneName().image()
	if rows, err := Descs(m); !alike(rows, []int{0, 1, 2, 3, 4}, err, 0) {
		t.Error(rows, err)
	}
	if rows, err := Rows(m); !alike(rows, []int{0, 1, 2, 3, 4, 5}, err, 0) {
		t.Error(rows, err)
	}
	want := []api.Live{{Row: 0, Kind: 2, Version: 1}, {Row: 5, Kind: 1, Version: 1}, {Row: 1, Kind: 2, Version: 1}, {Row: 2, Kind: 2, Version: 1}, {Row: 3, Kind: 2, Version: 1}, {Row: 4, Kind: 2, Version: 1}}
	if lives, err := Stripes(m); !alike(lives, want, err, 0) {
		t.Error(lives, err)
	}
	want = append(want[:5], api.Live{Row: 4, Kind: 2, Version: 2}, api.Live{Row: 7, Kind: 1, Version: 2}, api.Live{Row: 6, Kind: 2, Version: 2})
	if lives, err := Stripes(n); !alike(lives, want, err, 0) {
		t.Error(lives, err)
	}
	if rows, err := Descs(n); !alike(rows, []int{0, 1, 2, 3, 4, 6}, err, 0) {
		t.Error(rows, err)
	}
	if rows, err := Rows(n); !alike(rows, []int{0, 1, 2, 3, 4, 5, 6, 7}, err, 0) {
		t.Error(rows, err)
	}
}

func TestP23_3Examples(t *testing.T) {
	for k, want := range map[int]known{2: emptyStore(), 3: oneName(), 1: blank(exampleP())} {
		if next, err := Next(want.image()); next != k || err != 0 {
			t.Error(k, next, err)
		}
	}
	for _, k := range []known{emptyStore(), oneName()} {
		for many, want := range map[int]found{0: {is: true}, 1: {}, 2: {err: api.ErrLost}} {
			if is, err := Whole(k.without(upTo(0, many)...).image()); is != want.is || err != want.err {
				t.Error(many, is, err)
			}
		}
	}
}

// tells holds all calls against what was put into an image.
func tells(t *testing.T, its stood) {
	t.Helper()
	m := its.image()
	if rows, err := Buckets(m); !alike(rows, its.buckets, err, 0) {
		t.Fatalf("%v: Buckets are %v, %d, want %v", m.P, rows, err, its.buckets)
	}
	for bucket, want := range its.entries {
		if l, err := Entries(m, bucket); !alike(l, want, err, 0) {
			t.Fatalf("%v: Entries of %d are %v, %d, want %v", m.P, bucket, l, err, want)
		}
	}
	finds := its.finds()
	for i, name := range slices.Sorted(maps.Keys(finds)) {
		if i%(1+len(finds)/400) > 0 {
			continue // of very many names some are enough
		}
		if got := foundIn(m, name); got != finds[name] {
			t.Fatalf("%v: Find of %q is %v, want %v", m.P, name, got, finds[name])
		}
	}
	if rows, err := Descs(m); !alike(rows, its.descs(), err, 0) {
		t.Fatalf("%v: Descs are %v, %d, want %v", m.P, rows, err, its.descs())
	}
	if lives, err := Stripes(m); !alike(lives, its.stripes(), err, 0) {
		t.Fatalf("%v: Stripes are %v, %d, want %v", m.P, lives, err, its.stripes())
	}
	if rows, err := Rows(m); !alike(rows, rowsOf(m.P, its.stripes()), err, 0) {
		t.Fatalf("%v: Rows are %v, %d, want %v", m.P, rows, err, rowsOf(m.P, its.stripes()))
	}
}

// finds are what Find must answer of all names that there are, and of such as are near to them, or are not there.
func (its stood) finds() map[string]found {
	all := map[string]found{}
	not := func(name string) {
		if len(name) > 0 && len(name) <= longest {
			all[name] = found{bucket: its.buckets[bucketOf(name)]}
		}
	}
	for _, name := range plain() {
		not(name)
	}
	for _, l := range its.entries {
		for _, x := range l {
			not(x.Name[1:])
			not(x.Name + "\x00") // of the same bucket
			not(x.Name + "\x04")
			not("\x00" + x.Name)
			not(x.Name[:len(x.Name)-1] + string([]byte{x.Name[len(x.Name)-1] + 4}))
		}
	}
	for bucket, l := range its.entries {
		for _, x := range l {
			all[x.Name] = found{x.Row, its.buckets[bucket], true, api.OK}
		}
	}
	return all
}

func TestP23_1And2Stores(t *testing.T) {
	t.Parallel()
	names, objects := 0, 0
	for _, p := range few() {
		seeds := 40
		if p.Rows > 100 {
			seeds = 8
		}
		for seed := range seeds {
			its := standing(p, seed)
			tells(t, its)
			if seed < 5 {
				check(t, its.known, plain()[:9]...)
			}
			names, objects = names+len(its.descs())-5, objects+len(its.lives)-5
		}
	}
	if names != objects || names < 300 {
		t.Fatalf("there are %d names and %d objects", names, objects)
	}
}

func TestP23_1And2EveryParams(t *testing.T) {
	t.Parallel()
	every(func(p api.Params) {
		p.Rows = min(p.Rows, 40) // great images are the same, but slow
		tells(t, standing(p, p.K*p.Cell+p.R))
	})
}

// One object of each length at the edges, alone in the directory: those with leaves have these ahead of their stripes.
func TestP23_2ObjectsOfEachLength(t *testing.T) {
	t.Parallel()
	deep := 0
	for _, p := range few() {
		for i, length := range lengths(p) {
			its := begun(p, i)
			for range buckets {
				its.buckets = append(its.buckets, its.take())
			}
			if takes(p, length)+2 > len(its.free) {
				continue
			}
			name := plain()[i%len(plain())]
			its.entries[bucketOf(name)] = []api.Entry{entry(name, its.free[0])}
			row := its.take()
			its.object(row, some(length, i))
			its = its.done()
			tells(t, its)
			depth, many := shaped(p, length)
			deep += depth
			last := its.lives[row]
			lives, err := Stripes(its.image())
			if err != 0 || len(last) != takes(p, length) || !slices.Contains(lives, last[len(last)-1]) {
				t.Fatalf("%v: an object of %d bytes with %d refs has %v, %d", p, length, many, last, err)
			}
		}
	}
	if deep < 10 {
		t.Fatalf("%d objects have leaves", deep)
	}
}

// Buckets with none, one, several and as many entries as fit into the rows, each bucket of them.
func TestP23_1BucketsOfEachSize(t *testing.T) {
	t.Parallel()
	for _, p := range few() {
		for bucket := range buckets {
			for _, many := range []int{0, 1, 2, 3, 7, 20, 60} {
				its := begun(p, many)
				for range buckets {
					its.buckets = append(its.buckets, its.take())
				}
				var l []api.Entry
				for i := range many {
					l = put(l, entry(string([]byte{byte(i), byte(256 + bucket - i%4)}), its.buckets[i%4])) // of this bucket, as the bytes are summed
				}
				if takes(p, len(asBytes(l))) > len(its.free) || len(asBytes(l)) > measured(p).most {
					continue
				}
				if len(l) != many || many > 0 && bucketOf(l[many-1].Name) != bucket {
					t.Fatalf("%v are not %d names of the bucket %d", l, many, bucket)
				}
				its.entries[bucket] = l
				tells(t, its.done())
			}
		}
	}
}

// Entries may name one row several times, also a bucket's, or the root's: what is live is told as often.
func TestP23_2OneRowOfSeveralNames(t *testing.T) {
	t.Parallel()
	for _, p := range few() {
		its := begun(p, 3)
		for range buckets {
			its.buckets = append(its.buckets, its.take())
		}
		row := its.take()
		its.object(row, nil)
		its.entries[1] = []api.Entry{entry("a", row), entry("e", 0), entry("i", row)} // 97 and on: each fourth letter is of the bucket 1
		if len(its.free) > 4 {
			its.entries[2] = []api.Entry{entry("b", its.buckets[2]), entry("f", row), entry("j", its.buckets[1])}
		}
		its = its.done()
		tells(t, its)
		check(t, its.known, "a", "b", "e", "f", "i", "j", "m")
		lives, _ := Stripes(its.image())
		rows, _ := Rows(its.image())
		if len(lives) <= len(rows) || !slices.IsSorted(rows) || len(slices.Compact(slices.Clone(rows))) != len(rows) {
			t.Fatalf("%v: Stripes are %v, Rows %v", p, lives, rows)
		}
	}
}

// The root may name one row twice, or its own: then its buckets have the same entries, which are told as often.
func TestP23_1And2OneRowOfSeveralBuckets(t *testing.T) {
	t.Parallel()
	for _, p := range few() {
		for _, of := range [][]int{{0, 0, 0, 0}, {0, 1, 0, 1}, {0, 0, 1, 1}, {0, 1, 1, 0}, {1, 1, 1, 0}} {
			its := begun(p, 5)
			two := []int{its.take(), its.take()}
			object := its.take()
			its.object(object, nil)
			l := []api.Entry{entry("a", object), entry("b", two[1])}
			for _, i := range of {
				its.buckets = append(its.buckets, two[i])
			}
			if slices.Contains(of, 1) {
				its.object(two[1], nil)
			}
			its.object(two[0], asBytes(l))
			its.object(0, rowBytes(its.buckets...))
			check(t, its.known, "a", "b", "c", "d")
			rows, err1 := Buckets(its.image())
			a, b := foundIn(its.image(), "a"), foundIn(its.image(), "b")
			wants := func(bucket, row int) found {
				if of[bucket] == 0 {
					return found{row, two[0], true, 0}
				}
				return found{bucket: two[1]}
			}
			if !alike(rows, its.buckets, err1, 0) || a != wants(1, object) || b != wants(2, two[1]) {
				t.Fatalf("%v: of the buckets %v a is %v, b %v; %v, %d", p, of, a, b, rows, err1)
			}
			if descs, err := Descs(its.image()); err == 0 && slices.Index(descs, object) != 5 {
				t.Fatalf("%v: Descs are %v", p, descs)
			}
		}
	}
}

// A bucket's bytes are asked whether they may be entries, not in which bucket their names stand: where they stand in another one, they are told, but not found.
func TestP23_1NamesInOtherBuckets(t *testing.T) {
	for _, p := range few() {
		for bucket := range buckets {
			its := begun(p, 7)
			for range buckets {
				its.buckets = append(its.buckets, its.take())
			}
			object := its.take()
			its.object(object, nil)
			l := []api.Entry{entry("a", object), entry("b", object), entry("c", object), entry("d", object)}
			its.entries[bucket] = l
			if takes(p, len(asBytes(l))) > len(its.free) {
				continue
			}
			its = its.done()
			check(t, its.known, "a", "b", "c", "d")
			for _, x := range l {
				want := found{bucket: its.buckets[bucketOf(x.Name)]}
				if bucketOf(x.Name) == bucket {
					want = found{object, its.buckets[bucket], true, 0}
				}
				if got := foundIn(its.image(), x.Name); got != want {
					t.Fatalf("%v: Find of %q in the bucket %d is %v, want %v", p, x.Name, bucket, got, want)
				}
			}
		}
	}
}

// Each row that there is may be a bucket's, or an object's, and is told by its number, also above 255.
func TestP23_1And2EachRow(t *testing.T) {
	t.Parallel()
	for _, p := range []api.Params{exampleP(), {K: 1, R: 0, Cell: 32, Rows: 9}, {K: 4, R: 0, Cell: 8, Rows: 256}} {
		for row := 1; row < p.Rows; row++ {
			k := blank(p)
			others := slices.DeleteFunc(upTo(1, 9), func(other int) bool { return other == row })
			empty := descBytes(p, api.Desc{})
			for _, other := range append(others[:4], row) {
				k = k.whole(other, 0, 2, 5, empty)
			}
			of := []int{others[0], others[1], others[2], others[3]}
			of[row%4] = row
			k = k.whole(others[4], 0, 1, 5, append(rowBytes(of...), make([]byte, p.K*p.Cell-8)...))
			k = k.whole(0, 0, 2, 5, descBytes(p, api.Desc{Length: 8, Refs: []api.Ref{{Row: others[4], Version: 5}}}))
			check(t, k, "a", "b", "c", "d")
			name := string([]byte{byte(96 + (row+1)%4)})
			k = k.whole(others[5], 0, 1, 5, append(asBytes([]api.Entry{entry(name, row)}), make([]byte, p.K*p.Cell-4)...))
			at := of[(row+1)%4]
			k = k.whole(at, 1, 2, 6, descBytes(p, api.Desc{Length: 4, Refs: []api.Ref{{Row: others[5], Version: 5}}}))
			check(t, k, "a", "b", "c", "d", "`")
			if got, want := foundIn(k.image(), name), (found{row, at, true, 0}); got != want {
				t.Fatalf("%v: Find of %q is %v, want %v", p, name, got, want)
			}
		}
	}
}

// What is only begun does not count, neither of the root, nor of a bucket, nor of an object; what K drives hold does.
func TestP23_2TheWinners(t *testing.T) {
	t.Parallel()
	for _, p := range few() {
		p.Rows = min(p.Rows, 13) // great images are the same, but slow
		its := standing(p, 6)
		for row, lives := range its.lives {
			for many := range p.K + p.R + 1 {
				k := its.having(row, 1-its.slotOf(row), 2, same(p, newest+1), descBytes(p, api.Desc{}), upTo(0, many)...)
				if many < p.K {
					now := its
					now.known = k
					tells(t, now)
					continue
				}
				check(t, k, "a", "b", "c", "d")
				if got, err := Stripes(k.image()); err == 0 && (slices.Contains(got, lives[0]) || !slices.Contains(got, api.Live{Row: row, Kind: 2, Version: newest + 1})) {
					t.Fatalf("%v: with %d cells of the next version Stripes are %v", p, many, got)
				}
			}
		}
	}
}

// slotOf is the slot in which a row's winner stands on the last drive.
func (its stood) slotOf(row int) int {
	if its.rows[row][its.p.K+its.p.R-1][0].slot.Cell == its.lives[row][0].Version {
		return 0
	}
	return 1
}

// A great directory: as many entries as there may be in a bucket, most of which name one row.
func TestP23_1And2GreatDirectory(t *testing.T) {
	t.Parallel()
	p := api.Params{K: 12, R: 4, Cell: 64, Rows: 256}
	its := begun(p, 1)
	for range buckets {
		its.buckets = append(its.buckets, its.take())
	}
	row := its.take()
	its.object(row, nil)
	var l []api.Entry
	for i := 0; 8*len(l)+8 <= measured(p).most; i++ {
		l = append(l, entry("\x00"+string([]byte{byte(i >> 8), byte(i), byte(-i>>8 - i), 0}), row))
	}
	for i := range l { // the bytes are summed to the bucket 2
		for bucketOf(l[i].Name) != 2 {
			l[i].Name = l[i].Name[:4] + string([]byte{l[i].Name[4] + 1})
		}
	}
	its.entries[2] = l
	its.object(0, rowBytes(its.buckets...))
	for bucket, at := range its.buckets {
		its.object(at, asBytes(its.entries[bucket]))
	}
	tells(t, its)
}

// Names of many bytes, over the edges of stripes.
func TestP23_1LongNames(t *testing.T) {
	t.Parallel()
	for _, p := range few() {
		its := begun(p, 2)
		for range buckets {
			its.buckets = append(its.buckets, its.take())
		}
		row := its.take()
		its.object(row, nil)
		for i := range 9 {
			name := strings.Repeat(string([]byte{byte(4 * i)}), longest-i)
			l := put(its.entries[0], entry(name, row))
			if takes(p, len(asBytes(l))) > len(its.free) {
				break
			}
			its.entries[0] = l
		}
		tells(t, its.done())
	}
}
