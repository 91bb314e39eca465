package dir

import (
	"fmt"
	"math"
	"slices"
	"strings"
	"testing"

	"twoslot/api"
)

// The document's numbers, not api's names of them.
const (
	longest  = 24    // bytes of a name
	greatest = 32768 // bytes of an object
	four     = 4     // buckets
)

func exampleP() api.Params { return api.Params{K: 4, R: 2, Cell: 16, Rows: 32} }

// few are parameters of which objects may have the fewest bytes and the most, with the fewest rows and the most, and some between.
func few() []api.Params {
	return []api.Params{
		exampleP(),
		{K: 1, R: 0, Cell: 32, Rows: 8},
		{K: 1, R: 4, Cell: 64, Rows: 256},
		{K: 12, R: 4, Cell: 8, Rows: 8},
		{K: 12, R: 4, Cell: 64, Rows: 256},
		{K: 4, R: 1, Cell: 8, Rows: 255},
		{K: 3, R: 2, Cell: 11, Rows: 13},
		{K: 2, R: 1, Cell: 16, Rows: 200},
	}
}

// every calls visit with every number of rows, and with every K and R.
func every(visit func(p api.Params)) {
	for rows := 8; rows <= 256; rows++ {
		visit(api.Params{K: 1 + rows%12, R: rows % 5, Cell: 32 + rows%33, Rows: rows})
	}
	for k := 1; k <= 12; k++ {
		for r := range 5 {
			visit(api.Params{K: k, R: r, Cell: 64 - k, Rows: 8 + 7*k + r})
		}
	}
}

// wrongParams has wrong numbers at every place.
func wrongParams(visit func(p api.Params)) {
	for _, p := range few() {
		for _, wrong := range []int{-1, math.MinInt, math.MaxInt, 257, 1 << 32, -1 << 32, 1 << 62} {
			for _, place := range []*int{&p.K, &p.R, &p.Cell, &p.Rows} {
				right := *place
				*place = wrong
				visit(p)
				*place = right + 1<<32
				visit(p)
				*place = right
			}
		}
	}
	for _, p := range []api.Params{{}, {K: 0, R: 3, Cell: 16, Rows: 8}, {K: 13, R: 0, Cell: 16, Rows: 8}, {K: 2, R: 5, Cell: 16, Rows: 8}, {K: 2, R: 1, Cell: 15, Rows: 8}, {K: 12, R: 1, Cell: 7, Rows: 8}, {K: 2, R: 1, Cell: 65, Rows: 8}, {K: 2, R: 1, Cell: 16, Rows: 7}, {K: 2, R: 1, Cell: 16, Rows: 257}, {K: 1, R: 2, Cell: 31, Rows: 8}, {K: 3, R: 0, Cell: 10, Rows: 256}} {
		visit(p)
	}
}

// dice makes numbers that are the same in every run.
type dice uint64

func (d *dice) below(many int) int {
	*d = *d*6364136223846793005 + 1442695040888963407
	return int(uint64(*d)>>33) % many
}

// text is one of some letters, each of them thrown.
func (d *dice) text(length int, letters string) string {
	made := make([]byte, length)
	for i := range made {
		made[i] = letters[d.below(len(letters))]
	}
	return string(made)
}

// entry is one entry.
func entry(name string, row int) api.Entry { return api.Entry{Name: name, Row: row} }

// plain are names, some of which are the beginning of others, or of bytes that no letter has; in no order.
func plain() []string {
	return []string{
		"b", "a", "ab", "ba", "abc", "a b", "object", "Object", "object.1", "object.10", "object.2",
		"\x01", "\x02", "\x01\x01", "\x05", "\x00\x05", " ", "\x00", "\x00\x00", "\x00a", "a\x00", "a\x00\x00", "\x7f", "\x80", "\xff", "\xff\xff", "\xff\x00", "~", "\n",
		"é", "日本", "\ufffd", "\xc3", "\xe6\x97",
		strings.Repeat("a", longest), strings.Repeat("a", longest-1), strings.Repeat("a", longest-1) + "b", strings.Repeat("\xff", longest), strings.Repeat("\x00", longest),
	}
}

// wrongNames are such as may not be.
func wrongNames() []string {
	return []string{"", strings.Repeat("a", longest+1), strings.Repeat("日", 9), strings.Repeat("\x00", longest+1), strings.Repeat("\xff", 255), strings.Repeat("a", 256), strings.Repeat("a", 256+3), strings.Repeat("b", 1<<16+1)}
}

// wrongRows are numbers that no row has, some of which are the same as a row's in their last bytes.
func wrongRows(p api.Params) []int {
	return []int{-1, -2, -p.Rows, -255, -256, p.Rows, p.Rows + 1, 256, 257, 65535, 65536, 65537, 1<<16 + 3, 3 - 1<<16, 1<<31 - 1, -1 << 31, 1 << 32, 1<<32 + 3, 3 - 1<<32, 1 << 62, math.MinInt, math.MinInt + 3, math.MaxInt}
}

// ahead tells whether a name stands ahead of another one: at the first byte in which they are two, or because it ends there.
func ahead(a, b string) bool {
	for place := 0; place < len(b); place++ {
		if place == len(a) {
			return true
		}
		if a[place] != b[place] {
			return int(a[place]) < int(b[place])
		}
	}
	return false
}

// put puts entries into a list one by one, each at its place; of a name the first one.
func put(l []api.Entry, more ...api.Entry) []api.Entry {
	made := slices.Clone(l)
	for _, x := range more {
		place := 0
		for place < len(made) && ahead(made[place].Name, x.Name) {
			place++
		}
		if place == len(made) || made[place].Name != x.Name {
			made = slices.Insert(made, place, x)
		}
	}
	return made
}

// room is how many bytes entries have.
func room(l []api.Entry) int {
	all := 0
	for _, x := range l {
		all += len(x.Name) + 3
	}
	return all
}

// most is how many bytes an object may have.
func most(p api.Params) int {
	width := p.K * p.Cell
	return min(greatest, (width-7)/6*(width/6)*width)
}

// fit are the first entries, as many as an object's bytes hold.
func fit(p api.Params, l []api.Entry) []api.Entry {
	for room(l) > most(p) {
		l = l[:len(l)-1]
	}
	return l
}

// filled are entries that have just so many bytes (at least 200), the names of about the same length, which is 3 or more.
func filled(p api.Params, many, length int) []api.Entry {
	made := make([]api.Entry, many/(length+3))
	left := many - len(made)*(length+3)
	for i := range made {
		more := min(left, longest-length)
		left -= more
		made[i] = entry(string([]byte{byte(i >> 8), byte(i)})+strings.Repeat("k", length-2+more), i%p.Rows)
	}
	return made
}

// thrown are entries of names that are near to one another, at any rows.
func thrown(p api.Params, throw *dice, many int) []api.Entry {
	var made []api.Entry
	for range many {
		made = put(made, entry(throw.text(1+throw.below(1+throw.below(longest)), "ab\x00\xff"), throw.below(p.Rows)))
	}
	return fit(p, made)
}

// short lists are such as may be, of few entries.
func shortLists(p api.Params) [][]api.Entry {
	last := p.Rows - 1
	made := [][]api.Entry{nil, {}, {entry("a", 0)}, {entry("a", last)}, {entry("\x00", 5)}, {entry("\xff", p.Rows/2)}, {entry(strings.Repeat("z", longest), last)}, {entry("a", 5), entry("ab", 7)}, {entry("a", last), entry("b", last), entry("c", last)}, {entry("a", last), entry("b", 0), entry("ba", 1), entry("c", 0)}}
	throw := dice(p.Rows + p.K)
	for many := 1; many < 9; many++ {
		made = append(made, thrown(p, &throw, many))
	}
	return made
}

// lists are these, and such as have many entries, also as many as there may be.
func lists(p api.Params) [][]api.Entry {
	made := shortLists(p)
	var all, bytes, grown []api.Entry
	for i, name := range plain() {
		all = put(all, entry(name, i%p.Rows))
	}
	for b := range 256 {
		bytes = append(bytes, entry(string([]byte{byte(b)}), b%p.Rows))
	}
	for length := 1; length <= longest; length++ {
		grown = append(grown, entry(strings.Repeat("a", length), length%p.Rows))
	}
	made = append(made, fit(p, all), fit(p, bytes), grown, filled(p, most(p), 3), filled(p, most(p), longest-5), filled(p, most(p)-1, 3), filled(p, most(p)-4, 11))
	throw := dice(p.Rows)
	for _, many := range []int{20, 40, 80} {
		made = append(made, thrown(p, &throw, many))
	}
	return made
}

// upTo are the numbers below another.
func upTo(below int) []int {
	var all []int
	for number := range below {
		all = append(all, number)
	}
	return all
}

func nameMay(s string) bool {
	many := 0
	for range []byte(s) {
		many++
	}
	return many > 0 && many < longest+1
}

func rowMay(p api.Params, row int) bool { return !(row < 0) && !(row > p.Rows-1) }

// wantMay tells whether entries may be.
func wantMay(p api.Params, l []api.Entry) bool {
	last := ""
	for _, x := range l {
		if !nameMay(x.Name) || !rowMay(p, x.Row) || !ahead(last, x.Name) { // each name that may be stands behind the empty one
			return false
		}
		last = x.Name
	}
	return true
}

func wantCheck(p api.Params, l []api.Entry) api.Errno {
	if !wantMay(p, l) {
		return 220
	}
	if room(l) > most(p) {
		return 3
	}
	return 0
}

// asBytes puts entries behind one another, number by number.
func asBytes(l []api.Entry) []byte {
	var b []byte
	for _, x := range l {
		text := strings.Join([]string{string([]byte{byte(len(x.Name))}), x.Name, string([]byte{byte(x.Row / 256), byte(x.Row % 256)})}, "")
		b = append(b, text...)
	}
	return b
}

func wantBytes(p api.Params, l []api.Entry) ([]byte, api.Errno) {
	if err := wantCheck(p, l); err != 0 {
		return nil, err
	}
	return asBytes(l), 0
}

// wantParse takes entry by entry from the bytes, and then asks whether these entries are those bytes.
func wantParse(p api.Params, b []byte) ([]api.Entry, api.Errno) {
	if len(b) > most(p) {
		return nil, 3
	}
	var l []api.Entry
	for at := 0; at < len(b); {
		end := at + 1 + int(b[at])
		if end+1 >= len(b) {
			return nil, 220
		}
		l = append(l, entry(string(b[at+1:end]), int(b[end])*256+int(b[end+1])))
		at = end + 2
	}
	if !wantMay(p, l) || string(asBytes(l)) != string(b) {
		return nil, 220
	}
	return l, 0
}

// wantFind goes through all entries.
func wantFind(p api.Params, l []api.Entry, name string) (int, bool, api.Errno) {
	if err := wantCheck(p, l); err != 0 {
		return 0, false, err
	}
	if !nameMay(name) {
		return 0, false, 6
	}
	for _, x := range l {
		if x.Name == name {
			return x.Row, true, 0
		}
	}
	return 0, false, 0
}

func wantAdd(p api.Params, l []api.Entry, x api.Entry) ([]api.Entry, api.Errno) {
	_, is, err := wantFind(p, l, x.Name)
	switch {
	case err != 0 && err != 6:
		return nil, err
	case err == 6 || !rowMay(p, x.Row):
		return nil, 220
	case is:
		return nil, 7
	case room(l)+len(x.Name)+3 > most(p):
		return nil, 3
	}
	return put(l, x), 0
}

func wantRemove(p api.Params, l []api.Entry, name string) ([]api.Entry, api.Errno) {
	_, is, err := wantFind(p, l, name)
	if err != 0 {
		return nil, err
	}
	if !is {
		return nil, 8
	}
	return slices.DeleteFunc(slices.Clone(l), func(x api.Entry) bool { return x.Name == name }), 0
}

func wantRoot(p api.Params, rows []int) ([]byte, api.Errno) {
	b := make([]byte, 0, 2*len(rows))
	for _, row := range rows {
		if !rowMay(p, row) {
			return nil, 220
		}
		b = append(b, byte(row/256), byte(row%256))
	}
	if len(b) != 2*four {
		return nil, 220
	}
	return b, 0
}

func wantBuckets(p api.Params, b []byte) ([]int, api.Errno) {
	if len(b) != 2*four {
		return nil, 220
	}
	rows := make([]int, four)
	for i := range b {
		rows[i/2] = rows[i/2]*256 + int(b[i])
	}
	if _, err := wantRoot(p, rows); err != 0 {
		return nil, err
	}
	return rows, 0
}

// told is a list for a message.
func told[T any](l []T) string { return fmt.Sprintf("%d: %.400q", len(l), fmt.Sprint(l)) }

// alike tells whether an answer is what it must be, and nil beside an error.
func alike[T comparable](l, want []T, err, wants api.Errno) bool {
	return slices.Equal(l, want) && err == wants && (err == 0 || l == nil)
}

func checkCheck(t *testing.T, p api.Params, l []api.Entry) {
	t.Helper()
	if err, want := Check(p, l), wantCheck(p, l); err != want {
		t.Fatalf("%v: Check of the entries %s is %d, want %d", p, told(l), err, want)
	}
}

func checkBytes(t *testing.T, p api.Params, l []api.Entry) {
	t.Helper()
	b, err := Bytes(p, l)
	if want, wants := wantBytes(p, l); !alike(b, want, err, wants) {
		t.Fatalf("%v: Bytes of the entries %s is %s, %d, want %s, %d", p, told(l), told(b), err, told(want), wants)
	}
}

func checkParse(t *testing.T, p api.Params, b []byte) {
	t.Helper()
	l, err := Parse(p, b)
	if want, wants := wantParse(p, b); !alike(l, want, err, wants) {
		t.Fatalf("%v: Parse of the bytes %s is %s, %d, want %s, %d", p, told(b), told(l), err, told(want), wants)
	}
}

func checkFind(t *testing.T, p api.Params, l []api.Entry, name string) {
	t.Helper()
	row, is, err := Find(p, l, name)
	if want, wantIs, wants := wantFind(p, l, name); row != want || is != wantIs || err != wants {
		t.Fatalf("%v: Find of %.40q in the entries %s is %d, %v, %d, want %d, %v, %d", p, name, told(l), row, is, err, want, wantIs, wants)
	}
}

func checkAdd(t *testing.T, p api.Params, l []api.Entry, x api.Entry) {
	t.Helper()
	all, err := Add(p, l, x)
	if want, wants := wantAdd(p, l, x); !alike(all, want, err, wants) {
		t.Fatalf("%v: Add of %.40q at %d to the entries %s is %s, %d, want %s, %d", p, x.Name, x.Row, told(l), told(all), err, told(want), wants)
	}
}

func checkRemove(t *testing.T, p api.Params, l []api.Entry, name string) {
	t.Helper()
	rest, err := Remove(p, l, name)
	if want, wants := wantRemove(p, l, name); !alike(rest, want, err, wants) {
		t.Fatalf("%v: Remove of %.40q from the entries %s is %s, %d, want %s, %d", p, name, told(l), told(rest), err, told(want), wants)
	}
}

func checkRoot(t *testing.T, p api.Params, rows []int) {
	t.Helper()
	b, err := Root(p, rows)
	if want, wants := wantRoot(p, rows); !alike(b, want, err, wants) {
		t.Fatalf("%v: Root of the rows %s is %s, %d, want %s, %d", p, told(rows), told(b), err, told(want), wants)
	}
}

func checkBuckets(t *testing.T, p api.Params, b []byte) {
	t.Helper()
	rows, err := Buckets(p, b)
	if want, wants := wantBuckets(p, b); !alike(rows, want, err, wants) {
		t.Fatalf("%v: Buckets of the bytes %s is %s, %d, want %s, %d", p, told(b), told(rows), err, told(want), wants)
	}
}

// well tells that a call was not refused.
func well(t *testing.T, p api.Params, err api.Errno) {
	t.Helper()
	if err != api.OK {
		t.Fatalf("%v: a right call is refused by %d", p, err)
	}
}
