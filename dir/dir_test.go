package dir

import (
	"bytes"
	"slices"
	"strings"
	"testing"

	"twoslot/api"
)

func TestP22_1Examples(t *testing.T) {
	p := exampleP()
	b, err := Bytes(p, []api.Entry{entry("a", 5), entry("ab", 31)})
	if !bytes.Equal(b, []byte{1, 97, 0, 5, 2, 97, 98, 0, 31}) || err != 0 {
		t.Error(b, err)
	}
	if b, err = Bytes(p, nil); len(b) != 0 || err != 0 {
		t.Error(b, err)
	}
}

func TestP22_1RightEntries(t *testing.T) {
	every(func(p api.Params) {
		for _, l := range shortLists(p) {
			well(t, p, Check(p, l))
			checkBytes(t, p, l)
		}
	})
	for _, p := range few() {
		for _, l := range lists(p) {
			well(t, p, Check(p, l))
			checkBytes(t, p, l)
		}
	}
}

func TestP22_1EachRow(t *testing.T) {
	for _, p := range few() {
		for row := range p.Rows {
			b, err := Bytes(p, []api.Entry{entry("a", row), entry("b", p.Rows-1-row)})
			if want := []byte{1, 97, 0, byte(row), 1, 98, 0, byte(p.Rows - 1 - row)}; !alike(b, want, err, 0) {
				t.Fatalf("%v: Bytes of a at %d is %v, %d", p, row, b, err)
			}
		}
	}
}

func TestP22_1NamesOfEachLength(t *testing.T) {
	p := exampleP()
	for length := 1; length <= longest; length++ {
		for b := range 256 {
			name := strings.Repeat(string([]byte{byte(b)}), length)
			made, err := Bytes(p, []api.Entry{entry(name, 5)})
			if want := append(append([]byte{byte(length)}, name...), 0, 5); !alike(made, want, err, 0) {
				t.Fatalf("Bytes of %q at 5 is %v, %d", name, made, err)
			}
		}
	}
}

// Names rise by their bytes: any two of these, in both orders.
func TestP22_1TwoNames(t *testing.T) {
	p := exampleP()
	all := plain()
	for b := range 256 {
		all = append(all, string([]byte{byte(b)}), "k"+string([]byte{byte(b)}))
	}
	for _, first := range all {
		for _, second := range all {
			l := []api.Entry{entry(first, 1), entry(second, 0)}
			checkCheck(t, p, l)
			checkBytes(t, p, l)
		}
	}
}

// As many bytes as Most are not too many, one more is.
func TestP22_1Most(t *testing.T) {
	every(func(p api.Params) {
		for _, length := range []int{3, 11, longest - 5} {
			for more := -2; more <= 2; more++ {
				l, want := filled(p, most(p)+more, length), api.Errno(0)
				if more > 0 {
					want = 3
				}
				if room(l) != most(p)+more {
					t.Fatal("the list has another length")
				}
				if err := Check(p, l); err != want {
					t.Fatalf("%v: Check of entries of %d bytes is %d, want %d", p, room(l), err, want)
				}
			}
		}
	})
	for _, p := range few() {
		for more := -2; more <= 2; more++ {
			checkBytes(t, p, filled(p, most(p)+more, 3))
		}
	}
}

func TestP22_2Examples(t *testing.T) {
	p := exampleP()
	if l, err := Parse(p, []byte{1, 97, 0, 5}); !slices.Equal(l, []api.Entry{entry("a", 5)}) || err != 0 {
		t.Error(l, err)
	}
	for _, b := range [][]byte{{1, 97, 0}, {0, 0, 5}, {1, 97, 0, 32}, {1, 98, 0, 1, 1, 97, 0, 1}} {
		if l, err := Parse(p, b); l != nil || err != api.ErrDir {
			t.Error(b, l, err)
		}
	}
}

func TestP22_2RightBytes(t *testing.T) {
	every(func(p api.Params) {
		for _, l := range shortLists(p) {
			if made, err := Parse(p, asBytes(l)); !alike(made, l, err, 0) {
				t.Fatalf("%v: Parse of the bytes of %s is %s, %d", p, told(l), told(made), err)
			}
		}
	})
	for _, p := range few() {
		for _, l := range lists(p) {
			if made, err := Parse(p, asBytes(l)); !alike(made, l, err, 0) {
				t.Fatalf("%v: Parse of the bytes of %s is %s, %d", p, told(l), told(made), err)
			}
		}
	}
}

// All texts of two bytes, and all short ones of some bytes.
func TestP22_2AllShortBytes(t *testing.T) {
	p := exampleP()
	for first := range 256 {
		checkParse(t, p, []byte{byte(first)})
		for second := range 256 {
			checkParse(t, p, []byte{byte(first), byte(second)})
			checkParse(t, p, []byte{1, 97, byte(first), byte(second)})
			checkParse(t, p, []byte{byte(first), 97, 0, byte(second)})
			checkParse(t, p, []byte{1, byte(first), 0, 5, 1, byte(second), 0, 5})
		}
	}
	some := []byte{0, 1, 2, 3, 97}
	for length := 3; length <= 7; length++ {
		b := make([]byte, length)
		for number := range power(len(some), length) {
			for i := range b {
				b[i] = some[number%len(some)]
				number /= len(some)
			}
			checkParse(t, p, b)
		}
	}
}

func power(of, by int) int {
	made := 1
	for range by {
		made *= of
	}
	return made
}

// Each byte of right bytes becomes each other one.
func TestP22_2OneByteChanged(t *testing.T) {
	for _, p := range few() {
		for _, l := range shortLists(p) {
			b := asBytes(l)
			for place := range b {
				right := b[place]
				for other := range 256 {
					b[place] = byte(other)
					checkParse(t, p, b)
				}
				b[place] = right
			}
		}
	}
}

func TestP22_2ThrownBytes(t *testing.T) {
	throw := dice(3)
	for _, p := range few() {
		for range 20000 {
			b := []byte(throw.text(throw.below(12), "\x00\x00\x01\x01\x02\x03ab\xff"))
			checkParse(t, p, b)
		}
	}
}

func TestP22_3Examples(t *testing.T) {
	p := exampleP()
	a := []api.Entry{entry("a", 5)}
	for _, c := range []struct {
		name string
		row  int
		is   bool
		err  api.Errno
	}{{"a", 5, true, 0}, {"b", 0, false, 0}, {"", 0, false, api.ErrName}} {
		if row, is, err := Find(p, a, c.name); row != c.row || is != c.is || err != c.err {
			t.Error(c.name, row, is, err)
		}
	}
	if l, err := Add(p, []api.Entry{entry("b", 1)}, entry("a", 2)); !slices.Equal(l, []api.Entry{entry("a", 2), entry("b", 1)}) || err != 0 {
		t.Error(l, err)
	}
	if l, err := Add(p, []api.Entry{entry("a", 1)}, entry("a", 2)); l != nil || err != api.ErrExists {
		t.Error(l, err)
	}
	if l, err := Remove(p, []api.Entry{entry("a", 1)}, "a"); len(l) != 0 || err != 0 {
		t.Error(l, err)
	}
	if l, err := Remove(p, []api.Entry{entry("a", 1)}, "b"); l != nil || err != api.ErrNone {
		t.Error(l, err)
	}
}

// near are names just ahead of a name and just behind it.
func near(name string) []string {
	made := []string{name}
	last := len(name) - 1
	if last > 0 {
		made = append(made, name[:last])
	}
	if len(name) < longest {
		made = append(made, name+"\x00", name+"\xff", "\x00"+name)
	}
	if name[last] > 0 {
		made = append(made, name[:last]+string([]byte{name[last] - 1}))
	}
	if name[last] < 255 {
		made = append(made, name[:last]+string([]byte{name[last] + 1}))
	}
	return made
}

// asked are names that are in the list, and such as are near to these, first of all and last of all.
func askedFor(l []api.Entry, throw *dice) []string {
	made := append(plain(), "\x00", "\xff", strings.Repeat("\xff", longest))
	for place, x := range l {
		if len(l) < 60 || place < 10 || place > len(l)-10 || throw.below(len(l)/10) == 0 {
			made = append(made, near(x.Name)...)
		}
	}
	return made
}

func TestP22_3EachName(t *testing.T) {
	throw := dice(4)
	for _, p := range few() {
		for _, l := range lists(p) {
			for _, name := range askedFor(l, &throw) {
				checkFind(t, p, l, name)
				checkAdd(t, p, l, entry(name, throw.below(p.Rows)))
				checkRemove(t, p, l, name)
			}
		}
	}
}

// Lists of each number of entries, and each place in them: what stands there, and what would stand between.
func TestP22_3EachPlace(t *testing.T) {
	for _, p := range few() {
		for many := range 34 {
			var l []api.Entry
			for i := range many {
				l = append(l, entry(string([]byte{byte(3 * i), 7}), i%p.Rows))
			}
			for b := range 3*many + 2 {
				name := string([]byte{byte(b), 7})
				checkFind(t, p, l, name)
				checkAdd(t, p, l, entry(name, p.Rows-1))
				checkRemove(t, p, l, name)
			}
		}
	}
}

// Each row is told, also the row 0, which is told of no entry, too.
func TestP22_3EachRow(t *testing.T) {
	every(func(p api.Params) {
		for _, row := range []int{0, 1, p.Rows / 2, p.Rows - 1} {
			l := []api.Entry{entry("a", row), entry("b", 0), entry("c", row)}
			for _, name := range []string{"a", "b", "bb", "c", "0"} {
				checkFind(t, p, l, name)
				checkAdd(t, p, l, entry(name, row))
				checkRemove(t, p, l, name)
			}
		}
	})
}

// All sets of entries of some names, and each of these names.
func TestP22_3AllSets(t *testing.T) {
	p := exampleP()
	names := []string{"\x00", "a", "a\x00", "aa", "ab", "b", "ba", "\xff"}
	for bits := range 1 << len(names) {
		var l []api.Entry
		for i, name := range names {
			if bits>>i&1 == 1 {
				l = append(l, entry(name, i))
			}
		}
		for i, name := range names {
			checkFind(t, p, l, name)
			checkAdd(t, p, l, entry(name, 31-i))
			checkRemove(t, p, l, name)
		}
	}
}

// What is added may bring the bytes to Most, and not beyond.
func TestP22_3AddUpToMost(t *testing.T) {
	for _, p := range few() {
		for length := 1; length <= longest; length++ {
			x := entry(strings.Repeat("z", length), 7) // behind all others
			for more := -1; more <= 1; more++ {
				l, want := filled(p, most(p)-length-3+more, 3), api.Errno(0)
				if more > 0 {
					want = 3
				}
				if all, err := Add(p, l, x); err != want || err == 0 && !slices.Equal(all, append(l, x)) || err != 0 && all != nil {
					t.Fatalf("%v: Add of an entry of %d bytes to those of %d bytes is a list of %d, %d, want %d", p, length+3, room(l), len(all), err, want)
				}
			}
		}
	}
}

func TestP22_4Examples(t *testing.T) {
	p := exampleP()
	if b, err := Root(p, []int{1, 2, 3, 31}); !bytes.Equal(b, []byte{0, 1, 0, 2, 0, 3, 0, 31}) || err != 0 {
		t.Error(b, err)
	}
	if b, err := Root(p, []int{1, 2, 3}); b != nil || err != api.ErrDir {
		t.Error(b, err)
	}
	if l, err := Buckets(p, []byte{0, 1, 0, 2, 0, 3, 0, 4}); !slices.Equal(l, []int{1, 2, 3, 4}) || err != 0 {
		t.Error(l, err)
	}
	if l, err := Buckets(p, nil); l != nil || err != api.ErrDir {
		t.Error(l, err)
	}
}

// rowLists are rows of the buckets: rising, falling, alike, any.
func rowLists(p api.Params) [][]int {
	last := p.Rows - 1
	made := [][]int{{0, 0, 0, 0}, {last, last, last, last}, {1, 2, 3, 4}, {4, 3, 2, 1}, {0, last, 0, last}, {5, 5, 6, 6}}
	throw := dice(p.Rows)
	for range 10 {
		made = append(made, []int{throw.below(p.Rows), throw.below(p.Rows), throw.below(p.Rows), throw.below(p.Rows)})
	}
	return made
}

func TestP22_4RightRows(t *testing.T) {
	every(func(p api.Params) {
		for _, rows := range rowLists(p) {
			checkRoot(t, p, rows)
			b, err := wantRoot(p, rows)
			well(t, p, err)
			checkBuckets(t, p, b)
		}
		for place := range four {
			for row := range p.Rows {
				rows, b := []int{1, 2, 3, 4}, []byte{0, 1, 0, 2, 0, 3, 0, 4}
				rows[place], b[2*place+1] = row, byte(row)
				made, err := Root(p, rows)
				read, err2 := Buckets(p, b)
				if !alike(made, b, err, 0) || !alike(read, rows, err2, 0) {
					t.Fatalf("%v: Root of %v is %v, %d, Buckets of %v is %v, %d", p, rows, made, err, b, read, err2)
				}
			}
		}
	})
}

// Any two bytes at each place.
func TestP22_4AnyBytes(t *testing.T) {
	for _, p := range few()[:5] {
		for place := range four {
			for number := range 1 << 16 {
				b := []byte{0, 7, 0, 2, 0, 2, 0, 1}
				b[2*place], b[2*place+1] = byte(number>>8), byte(number)
				checkBuckets(t, p, b)
			}
		}
	}
}
