package dir

import (
	"maps"
	"slices"
	"testing"

	"twoslot/api"
)

// Parse of Bytes is the entries, and Bytes of these the bytes.
func TestP22_6ParseOfBytes(t *testing.T) {
	visit := func(p api.Params, l []api.Entry) {
		b, err := Bytes(p, l)
		well(t, p, err)
		read, err := Parse(p, b)
		if !alike(read, l, err, 0) {
			t.Fatalf("%v: Parse of Bytes of %s is %s, %d", p, told(l), told(read), err)
		}
		if again, err := Bytes(p, read); !alike(again, b, err, 0) {
			t.Fatalf("%v: Bytes of what Parse tells of %s is %s, %d", p, told(b), told(again), err)
		}
	}
	every(func(p api.Params) {
		for _, l := range shortLists(p) {
			visit(p, l)
		}
	})
	for _, p := range few() {
		for _, l := range lists(p) {
			visit(p, l)
		}
	}
}

// Every text that is read is the one of its entries, and no other; those of some bytes are gone through.
func TestP22_6BytesOfParse(t *testing.T) {
	p, read := exampleP(), 0
	some := []byte{0, 1, 2, 5, 97}
	for length := range 9 {
		b := make([]byte, length)
		for number := range power(len(some), length) {
			for i := range b {
				b[i] = some[number%len(some)]
				number /= len(some)
			}
			l, err := Parse(p, b)
			if err != 0 {
				continue
			}
			read++
			if made, err := Bytes(p, l); !alike(made, b, err, 0) {
				t.Fatalf("Bytes of what Parse tells of %v is %v, %d", b, made, err)
			}
		}
	}
	if read < 400 {
		t.Fatalf("only %d were read", read)
	}
}

func TestP22_6ThrownBytes(t *testing.T) {
	throw := dice(5)
	for _, p := range few() {
		read := 0
		for range 20000 {
			b := []byte(throw.text(4+throw.below(8), "\x00\x00\x01\x01\x02ab"))
			if l, err := Parse(p, b); err == 0 {
				read++
				if made, err := Bytes(p, l); !alike(made, b, err, 0) {
					t.Fatalf("%v: Bytes of what Parse tells of %v is %v, %d", p, b, made, err)
				}
			}
		}
		if read < 20 {
			t.Fatalf("%v: only %d were read", p, read)
		}
	}
}

func TestP22_6BucketsOfRoot(t *testing.T) {
	every(func(p api.Params) {
		for _, rows := range rowLists(p) {
			b, err := Root(p, rows)
			well(t, p, err)
			read, err := Buckets(p, b)
			if !alike(read, rows, err, 0) {
				t.Fatalf("%v: Buckets of Root of %v is %v, %d", p, rows, read, err)
			}
			if again, err := Root(p, read); !alike(again, b, err, 0) {
				t.Fatalf("%v: Root of what Buckets tells of %v is %v, %d", p, b, again, err)
			}
		}
	})
}

func TestP22_6RootOfThrownBytes(t *testing.T) {
	throw := dice(6)
	for _, p := range few() {
		read := 0
		for range 5000 {
			b := []byte(throw.text(2*four, "\x00\x00\x00\x00\x00\x00\x00\x00\x00\x00\x01\x07"))
			if rows, err := Buckets(p, b); err == 0 {
				read++
				if made, err := Root(p, rows); !alike(made, b, err, 0) {
					t.Fatalf("%v: Root of what Buckets tells of %v is %v, %d", p, b, made, err)
				}
			}
		}
		if read < 100 {
			t.Fatalf("%v: only %d were read", p, read)
		}
	}
}

// added is Add of several entries, none of which may be refused.
func added(t *testing.T, p api.Params, l []api.Entry, more ...api.Entry) []api.Entry {
	t.Helper()
	for _, x := range more {
		var err api.Errno
		l, err = Add(p, l, x)
		well(t, p, err)
	}
	return l
}

// orders calls visit with a list in every order.
func orders[T any](l []T, visit func(l []T)) {
	l = slices.Clone(l)
	var swap func(from int)
	swap = func(from int) {
		if from >= len(l) {
			visit(l)
			return
		}
		for i := from; i < len(l); i++ {
			l[from], l[i] = l[i], l[from]
			swap(from + 1)
			l[from], l[i] = l[i], l[from]
		}
	}
	swap(0)
}

// Add in every order comes to the same.
func TestP22_7AddInEveryOrder(t *testing.T) {
	p := exampleP()
	l := []api.Entry{entry("\x00", 9), entry("a", 5), entry("aa", 31), entry("ab", 0), entry("b", 5), entry("\xff", 1)}
	orders(l, func(mixed []api.Entry) {
		if made := added(t, p, nil, mixed...); !slices.Equal(made, l) {
			t.Fatalf("Add of %v, one by one, comes to %v", mixed, made)
		}
	})
}

func TestP22_7AddInAnyOrder(t *testing.T) {
	throw := dice(7)
	for _, p := range few() {
		for _, l := range lists(p) {
			if len(l) > 300 {
				continue
			}
			for range 3 {
				mixed := slices.Clone(l)
				for i := range mixed {
					other := i + throw.below(len(mixed)-i)
					mixed[i], mixed[other] = mixed[other], mixed[i]
				}
				if made := added(t, p, nil, mixed...); !slices.Equal(made, l) {
					t.Fatalf("%v: Add of %s, one by one, comes to %s", p, told(mixed), told(made))
				}
			}
		}
	}
}

// Find tells what was Added; Remove of it is what there was, and Find tells it no more.
func TestP22_7AddFindRemove(t *testing.T) {
	throw := dice(8)
	for _, p := range few() {
		for _, l := range lists(p) {
			for _, name := range askedFor(l, &throw) {
				x := entry(name, throw.below(p.Rows))
				longer, err := Add(p, l, x)
				if err != 0 {
					continue
				}
				if row, is, err := Find(p, longer, name); row != x.Row || !is || err != 0 {
					t.Fatalf("%v: Find of %q at %d, which was added to %s, is %d, %v, %d", p, name, x.Row, told(l), row, is, err)
				}
				rest, err := Remove(p, longer, name)
				if !alike(rest, l, err, 0) {
					t.Fatalf("%v: Remove of %q, which was added to %s, is %s, %d", p, name, told(l), told(rest), err)
				}
				if row, is, err := Find(p, rest, name); row != 0 || is || err != 0 {
					t.Fatalf("%v: Find of %q, which was removed from %s, is %d, %v, %d", p, name, told(longer), row, is, err)
				}
			}
		}
	}
}

// Add of what was Removed is what there was, at each place.
func TestP22_7RemoveAndAdd(t *testing.T) {
	for _, p := range few() {
		for _, l := range lists(p) {
			for place := 0; place < len(l); place += 1 + len(l)/30 {
				x := l[place]
				rest, err := Remove(p, l, x.Name)
				well(t, p, err)
				if row, is, err := Find(p, rest, x.Name); row != 0 || is || err != 0 {
					t.Fatalf("%v: Find of %q, which was removed from %s, is %d, %v, %d", p, x.Name, told(l), row, is, err)
				}
				for _, other := range []int{place - 1, place + 1} {
					if other >= 0 && other < len(l) {
						if row, is, err := Find(p, rest, l[other].Name); row != l[other].Row || !is || err != 0 {
							t.Fatalf("%v: Find of %q behind Remove of %q is %d, %v, %d", p, l[other].Name, x.Name, row, is, err)
						}
					}
				}
				if again := added(t, p, rest, x); !slices.Equal(again, l) {
					t.Fatalf("%v: Add of %q, which was removed from %s, is %s", p, x.Name, told(l), told(again))
				}
			}
		}
	}
}

// Entries are added and removed again and again: Find tells of each name what a map does, and the bytes tell the entries.
func TestP22_7AgainAndAgain(t *testing.T) {
	throw := dice(10)
	for _, p := range few() {
		var l []api.Entry
		there := map[string]int{}
		for range 400 {
			name, row := throw.text(1+throw.below(3), "ab\xff"), throw.below(p.Rows)
			was, is := there[name]
			var err, want api.Errno
			next := l
			switch throw.below(3) {
			case 0:
				next, err = Remove(p, l, name)
				if delete(there, name); !is {
					want = 8
				}
			default:
				next, err = Add(p, l, entry(name, row))
				if there[name] = row; is {
					there[name], want = was, 7
				}
			}
			if err != want {
				t.Fatalf("%v: a call of %q, which is %v, is %d, want %d", p, name, is, err, want)
			}
			if err == 0 {
				l = next
			}
			b, err := Bytes(p, l)
			well(t, p, err)
			l, err = Parse(p, b)
			well(t, p, err)
			names := slices.Sorted(maps.Keys(there))
			if len(l) != len(names) {
				t.Fatalf("%v: there are the entries %s, want the names %q", p, told(l), names)
			}
			for i, name := range names {
				if row, is, err := Find(p, l, name); l[i].Name != name || row != there[name] || !is || err != 0 {
					t.Fatalf("%v: Find of %q is %d, %v, %d, want %d", p, name, row, is, err, there[name])
				}
			}
		}
	}
}
