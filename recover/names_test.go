package recover

import (
	"slices"
	"strings"

	"twoslot/api"
)

// The document's numbers, not api's names of them.
const (
	longest = 24 // bytes of a name
	buckets = 4  // of the directory
)

// entry is one entry.
func entry(name string, row int) api.Entry { return api.Entry{Name: name, Row: row} }

// plain are names of all buckets, some of which are the beginning of others, or of bytes that no letter has.
func plain() []string {
	return []string{
		"b", "a", "ab", "ba", "abc", "a b", "object", "Object", "object.1", "object.10", "object.2",
		"\x01", "\x02", "\x01\x01", "\x05", "\x00\x05", " ", "\x00", "\x00\x00", "\x00a", "a\x00", "\x7f", "\x80", "\xff", "\xff\xff", "\xff\x00", "~", "\n",
		"é", "日本", "\ufffd", "\xc3", "\xe6\x97",
		strings.Repeat("a", longest), strings.Repeat("a", longest-1), strings.Repeat("\xff", longest), strings.Repeat("\x00", longest),
	}
}

// bucketOf is the bucket in which a name stands: each byte is one place further.
func bucketOf(name string) int {
	at := 0
	for _, b := range []byte(name) {
		for range int(b) {
			at++
			if at == buckets {
				at = 0
			}
		}
	}
	return at
}

// ahead tells whether a name stands ahead of another one: at the first byte in which they are two, or because it ends there.
func ahead(a, b string) bool {
	for place := 0; place < len(b); place++ {
		if place == len(a) {
			return true
		}
		if a[place] != b[place] {
			return int(a[place]) < int(b[place])
		}
	}
	return false
}

// put puts entries into a list one by one, each at its place; of a name the first one.
func put(l []api.Entry, more ...api.Entry) []api.Entry {
	made := slices.Clone(l)
	for _, x := range more {
		place := 0
		for place < len(made) && ahead(made[place].Name, x.Name) {
			place++
		}
		if place == len(made) || made[place].Name != x.Name {
			made = slices.Insert(made, place, x)
		}
	}
	return made
}

// asBytes puts entries behind one another, number by number.
func asBytes(l []api.Entry) []byte {
	b := []byte{}
	for _, x := range l {
		b = append(b, byte(len(x.Name)))
		b = append(b, x.Name...)
		b = append(b, byte(x.Row/256), byte(x.Row%256))
	}
	return b
}

// rowBytes are rows behind one another.
func rowBytes(rows ...int) []byte {
	var b []byte
	for _, row := range rows {
		b = append(b, byte(row/256), byte(row%256))
	}
	return b
}

// readEntries takes entry by entry from the bytes; false, unless such entries may be.
func readEntries(p api.Params, b []byte) ([]api.Entry, bool) {
	var l []api.Entry
	for at := 0; at < len(b); {
		end := at + 1 + int(b[at])
		if end+1 >= len(b) {
			return nil, false
		}
		x := entry(string(b[at+1:end]), numberOf(b[end:end+2]))
		if len(x.Name) == 0 || len(x.Name) > longest || x.Row >= p.Rows || len(l) > 0 && !ahead(l[len(l)-1].Name, x.Name) {
			return nil, false
		}
		l, at = append(l, x), end+2
	}
	return l, true
}

// readRows are the rows of the buckets that bytes are; false, unless they are such.
func readRows(p api.Params, b []byte) ([]int, bool) {
	var rows []int
	for two := range slices.Chunk(b, 2) {
		rows = append(rows, numberOf(two))
	}
	wrong := slices.ContainsFunc(rows, func(row int) bool { return row >= p.Rows })
	return rows, len(b) == 2*buckets && !wrong
}
