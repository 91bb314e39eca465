package dir

import (
	"bytes"
	"math"
	"slices"
	"strings"
	"testing"

	"twoslot/api"
)

// with is a list with another thing at a place.
func with[T any](l []T, place int, x T) []T {
	made := slices.Clone(l)
	made[place] = x
	return made
}

// rightNames rise, with names between each two of them.
var rightNames = []string{"b", "d", "dd", "f", "h"}

// right are entries of these names.
func right(p api.Params) []api.Entry {
	var l []api.Entry
	for i, name := range rightNames {
		l = append(l, entry(name, (p.Rows-1)*i/4))
	}
	return l
}

// wrongEntries are such as may not be, each alone.
func wrongEntries(p api.Params) []api.Entry {
	var all []api.Entry
	for _, name := range wrongNames() {
		all = append(all, entry(name, 0), entry(name, p.Rows-1), entry(name, p.Rows))
	}
	for _, row := range wrongRows(p) {
		if !rowMay(p, row) {
			all = append(all, entry("a", row), entry("dd", row), entry("", row))
		}
	}
	return all
}

// wrongLists are entries that may not be: one of them wrong, or in a wrong row.
func wrongLists(p api.Params) [][]api.Entry {
	l := right(p)
	var all [][]api.Entry
	for _, x := range wrongEntries(p) {
		all = append(all, []api.Entry{x})
		for place := range l {
			all = append(all, with(l, place, x), slices.Insert(slices.Clone(l), place, x))
		}
		all = append(all, append(slices.Clone(l), x))
	}
	for place := range l {
		for other, x := range l {
			if other != place {
				all = append(all, with(l, place, entry(x.Name, 1)), slices.Insert(slices.Clone(l), place, entry(x.Name, 1)))
			}
		}
		for _, row := range wrongRows(p) {
			if !rowMay(p, row) {
				all = append(all, with(l, place, entry(l[place].Name, row)))
			}
		}
	}
	back := slices.Clone(l)
	slices.Reverse(back)
	return append(all, back, slices.Concat(l, l), []api.Entry{l[0], l[0]}, []api.Entry{l[1], l[0]}, []api.Entry{entry("ab", 1), entry("a", 1)}, []api.Entry{entry("\xff", 1), entry("a", 1)}, []api.Entry{entry("a", 1), entry("a", 2)})
}

// refusedList tells that all calls that are handed a list refuse it, whatever else they are handed.
func refusedList(t *testing.T, p api.Params, l []api.Entry, want api.Errno) {
	t.Helper()
	if err := Check(p, l); err != want {
		t.Fatalf("%v: Check of the entries %s is %d, want %d", p, told(l), err, want)
	}
	if b, err := Bytes(p, l); b != nil || err != want {
		t.Fatalf("%v: Bytes of the entries %s is %s, %d, want %d", p, told(l), told(b), err, want)
	}
	for _, name := range []string{"a", "b", "dd", "z", "", wrongNames()[1]} {
		if row, is, err := Find(p, l, name); row != 0 || is || err != want {
			t.Fatalf("%v: Find of %.40q in the entries %s is %d, %v, %d, want %d", p, name, told(l), row, is, err, want)
		}
		if rest, err := Remove(p, l, name); rest != nil || err != want {
			t.Fatalf("%v: Remove of %.40q from the entries %s is %s, %d, want %d", p, name, told(l), told(rest), err, want)
		}
		for _, row := range []int{0, 5, p.Rows, -1} {
			if all, err := Add(p, l, entry(name, row)); all != nil || err != want {
				t.Fatalf("%v: Add of %.40q at %d to the entries %s is %s, %d, want %d", p, name, row, told(l), told(all), err, want)
			}
		}
	}
}

func refusedParse(t *testing.T, p api.Params, b []byte, want api.Errno) {
	t.Helper()
	if l, err := Parse(p, b); l != nil || err != want {
		t.Fatalf("%v: Parse of the bytes %s is %s, %d, want %d", p, told(b), told(l), err, want)
	}
}

func refusedRoot(t *testing.T, p api.Params, rows []int, want api.Errno) {
	t.Helper()
	if b, err := Root(p, rows); b != nil || err != want {
		t.Fatalf("%v: Root of the rows %s is %s, %d, want %d", p, told(rows), told(b), err, want)
	}
}

func refusedBuckets(t *testing.T, p api.Params, b []byte, want api.Errno) {
	t.Helper()
	if rows, err := Buckets(p, b); rows != nil || err != want {
		t.Fatalf("%v: Buckets of the bytes %s is %s, %d, want %d", p, told(b), told(rows), err, want)
	}
}

// Parameters are told ahead of all else, whatever else is wrong.
func TestP22_1WrongParams(t *testing.T) {
	few := [][]api.Entry{nil, {}, {entry("a", 5)}, {entry("", 5)}, {entry("a", -1)}, {entry("b", 1), entry("a", 1)}, filled(exampleP(), 40000, 3)}
	wrongParams(func(p api.Params) {
		for _, l := range few[:6] {
			refusedList(t, p, l, api.ErrParams)
		}
	})
	refusedList(t, api.Params{}, few[6], api.ErrParams)
}

func TestP22_2WrongParams(t *testing.T) {
	long := make([]byte, 40000)
	wrongParams(func(p api.Params) {
		for _, b := range [][]byte{nil, {}, {1, 97, 0, 5}, {1, 97, 0}, {0}, long} {
			refusedParse(t, p, b, api.ErrParams)
		}
	})
}

func TestP22_4WrongParams(t *testing.T) {
	wrongParams(func(p api.Params) {
		for _, rows := range [][]int{nil, {}, {1, 2, 3, 4}, {0, 0, 0, 0}, {1, 2, 3}, {1, 2, 3, -1}, {1, 2, 3, math.MaxInt}} {
			refusedRoot(t, p, rows, api.ErrParams)
		}
		for _, b := range [][]byte{nil, {}, make([]byte, 8), {0, 1, 0, 2, 0, 3, 0, 4}, make([]byte, 7), {255, 255, 0, 0, 0, 0, 0, 0}} {
			refusedBuckets(t, p, b, api.ErrParams)
		}
	})
}

// The calls that are handed a list tell the list's errors ahead of all that else is wrong.
func TestP22_1And3WrongEntries(t *testing.T) {
	for _, p := range few() {
		for _, l := range wrongLists(p) {
			refusedList(t, p, l, api.ErrDir)
		}
	}
}

// A wrong entry stands at each place of a long list, which has as many bytes as may be, or more.
func TestP22_1And3WrongAheadOfTooBig(t *testing.T) {
	for _, p := range few() {
		for _, more := range []int{0, 1, 100} {
			l := filled(p, most(p)+more, 3)
			last := len(l) - 1
			if more > 0 {
				refusedList(t, p, l, api.ErrTooBig)
			}
			for _, place := range []int{0, 1, last / 2, last - 1, last} {
				name := l[place].Name
				for _, x := range []api.Entry{entry(name, -1), entry(name, p.Rows), entry("", 0), entry(name+strings.Repeat("k", longest), 0), l[(place+1)%len(l)], l[(place+last)%len(l)]} {
					refusedList(t, p, with(l, place, x), api.ErrDir)
				}
			}
		}
	}
}

// Lists of more entries than any list may have are too big, or not rising.
func TestP22_1And3LongLists(t *testing.T) {
	p := few()[4]
	l := make([]api.Entry, 1<<16+9)
	for i := range l {
		l[i] = entry(string([]byte{byte(i >> 16), byte(i >> 8), byte(i)}), i%256)
	}
	refusedList(t, p, l, api.ErrTooBig)
	refusedList(t, p, l[:1<<16], api.ErrTooBig)
	refusedList(t, p, l[:1<<16+1], api.ErrTooBig)
	l[len(l)-1].Row = 256
	refusedList(t, p, l, api.ErrDir)
	refusedList(t, p, slices.Repeat([]api.Entry{entry("a", 1)}, 1<<16+1), api.ErrDir)
	refusedList(t, p, make([]api.Entry, 1<<16+1), api.ErrDir)
}

// Bytes that are cut short anywhere are not those of any entries, but where an entry ends.
func TestP22_2CutShort(t *testing.T) {
	for _, p := range few() {
		for _, l := range lists(p) {
			b := asBytes(l)
			ends := map[int]int{0: 0}
			for many := range l {
				ends[room(l[:many+1])] = many + 1
			}
			for end := max(0, len(b)-200); end < len(b); end++ {
				if many, is := ends[end]; !is {
					refusedParse(t, p, b[:end], api.ErrDir)
				} else if made, err := Parse(p, b[:end]); !alike(made, l[:many], err, 0) {
					t.Fatalf("%v: Parse of the bytes of %s is %s, %d", p, told(l[:many]), told(made), err)
				}
			}
		}
	}
}

// Behind right bytes stands what is no entry.
func TestP22_2MoreBehind(t *testing.T) {
	for _, p := range few() {
		for _, l := range shortLists(p) {
			b := asBytes(l)
			for _, behind := range []string{"\x00", "\x01", "\xff", "\x00\x00", "\x00\x00\x00", "\x00\x00\x05", "\x01\xff", "\x01\xff\x00", "\x03\xff\xff\x00\x01", "\x18\xff\x00\x01", "\x19" + strings.Repeat("\xff", 25) + "\x00\x01"} {
				refusedParse(t, p, append(slices.Clone(b), behind...), api.ErrDir)
			}
		}
	}
}

// Bytes of entries that may not be: names without bytes, or with too many, rows that there are not, names that do not rise.
func TestP22_2WrongEntries(t *testing.T) {
	for _, p := range few() {
		for _, l := range wrongLists(p) {
			fits := true
			for _, x := range l {
				fits = fits && len(x.Name) < 256 && x.Row >= 0 && x.Row < 1<<16
			}
			if fits {
				refusedParse(t, p, asBytes(l)[:min(most(p), room(l))], api.ErrDir)
			}
		}
		for length := range 256 {
			b := append(append([]byte{byte(length)}, strings.Repeat("k", length)...), 0, 1)
			if l, err := Parse(p, b); (err == 0) != (length >= 1 && length <= longest) || err != 0 && (l != nil || err != api.ErrDir) {
				t.Fatalf("%v: Parse of a name of %d bytes is %s, %d", p, length, told(l), err)
			}
		}
		for row := range 1 << 16 {
			if l, err := Parse(p, []byte{1, 'k', byte(row >> 8), byte(row)}); (err == 0) != (row < p.Rows) || err != 0 && (l != nil || err != api.ErrDir) {
				t.Fatalf("%v: Parse of k at %d is %s, %d", p, row, told(l), err)
			}
		}
	}
}

// More bytes than Most are told ahead of all that is wrong in them.
func TestP22_2TooBig(t *testing.T) {
	every(func(p api.Params) {
		for _, more := range []int{1, 2, 100} {
			refusedParse(t, p, asBytes(filled(p, most(p)+more, 3)), api.ErrTooBig)
			refusedParse(t, p, make([]byte, most(p)+more), api.ErrTooBig)
			refusedParse(t, p, bytes.Repeat([]byte{255}, most(p)+more), api.ErrTooBig)
		}
		refusedParse(t, p, make([]byte, most(p)), api.ErrDir)
		refusedParse(t, p, bytes.Repeat([]byte{255}, most(p)), api.ErrDir)
		checkParse(t, p, asBytes(filled(p, most(p), 3)))
		checkParse(t, p, asBytes(filled(p, most(p), 3))[:most(p)-1])
		refusedParse(t, p, asBytes(filled(p, most(p)+1, 3))[:most(p)], api.ErrDir)
	})
	refusedParse(t, few()[4], make([]byte, 1<<16), api.ErrTooBig)
	refusedParse(t, few()[4], make([]byte, 1<<16+1), api.ErrTooBig)
	refusedParse(t, few()[4], make([]byte, 1<<20), api.ErrTooBig)
}

// A name that may not be is told of Find and Remove, in any right list, one that is full, too.
func TestP22_3WrongNames(t *testing.T) {
	for _, p := range few() {
		for _, l := range lists(p) {
			for _, name := range wrongNames() {
				if row, is, err := Find(p, l, name); row != 0 || is || err != api.ErrName {
					t.Fatalf("%v: Find of %.40q in the entries %s is %d, %v, %d", p, name, told(l), row, is, err)
				}
				if rest, err := Remove(p, l, name); rest != nil || err != api.ErrName {
					t.Fatalf("%v: Remove of %.40q from the entries %s is %s, %d", p, name, told(l), told(rest), err)
				}
			}
		}
	}
}

func refusedAdd(t *testing.T, p api.Params, l []api.Entry, x api.Entry, want api.Errno) {
	t.Helper()
	if all, err := Add(p, l, x); all != nil || err != want {
		t.Fatalf("%v: Add of %.40q at %d to the entries %s is %s, %d, want %d", p, x.Name, x.Row, told(l), told(all), err, want)
	}
}

// An entry that may not be is told ahead of its name that there is already, and of too many bytes.
func TestP22_3AddOfWrongEntries(t *testing.T) {
	for _, p := range few() {
		for _, l := range lists(p) {
			for _, x := range wrongEntries(p) {
				refusedAdd(t, p, l, x, api.ErrDir)
			}
			for place, x := range l {
				if place%(1+len(l)/9) == 0 {
					refusedAdd(t, p, l, entry(x.Name, -1), api.ErrDir)
					refusedAdd(t, p, l, entry(x.Name, p.Rows), api.ErrDir)
				}
			}
		}
	}
}

// A name that there is already is told ahead of too many bytes, also at its own row.
func TestP22_3Exists(t *testing.T) {
	for _, p := range few() {
		for _, l := range lists(p) {
			for _, x := range l {
				refusedAdd(t, p, l, x, api.ErrExists)
				refusedAdd(t, p, l, entry(x.Name, p.Rows-1-x.Row), api.ErrExists)
			}
		}
		full := filled(p, most(p), 3)
		for _, name := range []string{"z", "zz", "\x00", strings.Repeat("z", longest)} {
			refusedAdd(t, p, full, entry(name, 0), api.ErrTooBig)
		}
	}
}

// Where nothing has the name, Remove tells it, of no list, too.
func TestP22_3None(t *testing.T) {
	for _, p := range few() {
		for _, l := range [][]api.Entry{nil, {}, right(p)} {
			for _, name := range []string{"a", "bb", "c", "d\x00", "D", "g", "hh", "z", "\x00", "\xff"} {
				if rest, err := Remove(p, l, name); rest != nil || err != api.ErrNone {
					t.Fatalf("%v: Remove of %q from the entries %s is %s, %d", p, name, told(l), told(rest), err)
				}
			}
		}
	}
}

func TestP22_4WrongRows(t *testing.T) {
	every(func(p api.Params) {
		rows := []int{1, 0, p.Rows - 1, 1}
		for many := range 10 {
			if many != four {
				refusedRoot(t, p, slices.Repeat(rows, 3)[:many], api.ErrDir)
				refusedRoot(t, p, make([]int, many), api.ErrDir)
			}
		}
		for _, row := range wrongRows(p) {
			for place := range rows {
				if !rowMay(p, row) {
					refusedRoot(t, p, with(rows, place, row), api.ErrDir)
				}
				refusedRoot(t, p, append(slices.Clone(rows), row), api.ErrDir)
			}
		}
	})
	refusedRoot(t, exampleP(), make([]int, 1<<16+1), api.ErrDir)
}

func TestP22_4WrongBytes(t *testing.T) {
	every(func(p api.Params) {
		b := []byte{0, 1, 0, 0, 0, byte(p.Rows - 1), 0, 1}
		for many := range 25 {
			if many != 2*four {
				refusedBuckets(t, p, slices.Repeat(b, 4)[:many], api.ErrDir)
				refusedBuckets(t, p, make([]byte, many), api.ErrDir)
			}
		}
		for place := range four {
			for row := p.Rows; row < p.Rows+300; row++ {
				refusedBuckets(t, p, with(with(b, 2*place, byte(row>>8)), 2*place+1, byte(row)), api.ErrDir)
			}
			for _, high := range []byte{1, 2, 128, 255} {
				refusedBuckets(t, p, with(b, 2*place, high), api.ErrDir)
			}
		}
	})
	refusedBuckets(t, exampleP(), make([]byte, 1<<16+1), api.ErrDir)
}
