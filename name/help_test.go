package name

import (
	"fmt"
	"slices"
	"strings"
	"testing"

	"twoslot/api"
)

// The document's numbers, not api's names of them.
const (
	longest  = 24    // bytes of a name
	greatest = 65536 // texts of a list
)

// dice makes numbers that are the same in every run.
type dice uint64

func (d *dice) below(many int) int {
	*d = *d*6364136223846793005 + 1442695040888963407
	return int(uint64(*d)>>33) % many
}

// text is one of some letters, each of them thrown.
func (d *dice) text(length int, letters ...string) string {
	var made string
	for range length {
		made += letters[d.below(len(letters))]
	}
	return made
}

// one is the text of a byte.
func one(b int) string { return string([]byte{byte(b)}) }

// all are the texts of each byte.
func all() []string {
	var made []string
	for b := range 256 {
		made = append(made, one(b))
	}
	return made
}

// plain are names, most of them of bytes that no letter has, or only some letters, or that are told in another way.
func plain() []string {
	made := []string{
		"a", "b", "ab", "ba", "abc", "a b", "object", "Object", "object.1", "object.10", "object.2",
		" ", "  ", "\x00", "\x00\x00", "\x7f", "\x80", "\xff", "\xff\xff", "~", "!", "\n", "\r\n", "\t",
		"\"", "\"\"", "\\", "\\\\", "\\\"", "\"\\", "\"a\"", "\\x", "\\x20", "\\n", "x20", "\\xff", "\\xFF",
		"é", "日本", "\u00a0", "\u200b", "\ufeff", "\ufffd", "\U0001f600", "\xc3", "\xa9", "\xe6\x97", "\xf0\x9f\x98", "\xed\xa0\x80", "\xc0\x80",
		"aé", "éa", "a\xc3", "\xc3a", "\xc3\"", "\"é\"", "\\é", "\\x\xc3\xa9",
		strings.Repeat("a", longest), strings.Repeat("\xff", longest), strings.Repeat("\"", longest), strings.Repeat("\\", longest), strings.Repeat("\x00", longest),
		strings.Repeat("日", longest/3), strings.Repeat("a", longest-1), strings.Repeat("a", longest-1) + "\"", "\\" + strings.Repeat("a", longest-1),
	}
	return made
}

// placed are names with each byte alone, at the beginning, within and at the end, short and of the greatest length.
func placed() []string {
	var made []string
	for _, b := range all() {
		made = append(made, b, b+"k", "k"+b+"m", "m"+b, b+b, b+strings.Repeat("k", longest-1), strings.Repeat("k", longest-1)+b, strings.Repeat(b, longest))
	}
	return made
}

// thrown are names of any bytes, of any length.
func thrown(many int, throw *dice) []string {
	var made []string
	for range many {
		made = append(made, throw.text(1+throw.below(longest), all()...))
	}
	return made
}

// names are all of these.
func names() []string {
	throw := dice(21)
	return slices.Concat(plain(), placed(), thrown(2000, &throw))
}

// wrongNames are such as may not be: without bytes, or with too many, fewer letters though they have.
func wrongNames() []string {
	made := []string{"", strings.Repeat("日", 9), strings.Repeat("é", 12) + "a", strings.Repeat("a", 1<<16), strings.Repeat("a", 256+3), strings.Repeat("a", 1<<16+3)}
	for _, letter := range []string{"a", "\"", "\\", "\x00", "\xff", " "} {
		made = append(made, strings.Repeat(letter, longest+1), strings.Repeat(letter, 2*longest))
	}
	return made
}

// short is a text for a message.
func short(s string) string {
	if len(s) > 100 {
		return fmt.Sprintf("%q and so on, %d bytes", s[:100], len(s))
	}
	return fmt.Sprintf("%q", s)
}

// may tells whether a name may be, by going through its bytes.
func may(s string) bool {
	many := 0
	for range []byte(s) {
		many++
	}
	return many >= 1 && many <= longest
}

// bucket counts round the four buckets, a step for each one of a byte.
func bucket(s string) int {
	at := 0
	for _, b := range []byte(s) {
		for range int(b) {
			at = []int{1, 2, 3, 0}[at]
		}
	}
	return at
}

// ahead tells whether a text stands ahead of another one: at the first byte in which they are two, or because it ends there.
func ahead(a, b string) bool {
	for place := 0; place < len(b); place++ {
		if place == len(a) {
			return true
		}
		if a[place] != b[place] {
			return int(a[place]) < int(b[place])
		}
	}
	return false
}

// wantSort puts name by name at its place.
func wantSort(l []string) ([]string, api.Errno) {
	if len(l) > greatest {
		return nil, 20
	}
	var row []string
	for _, s := range l {
		if !may(s) {
			return nil, 6
		}
		place := 0
		for place < len(row) && ahead(row[place], s) {
			place++
		}
		if place == len(row) || row[place] != s {
			row = slices.Insert(row, place, s)
		}
	}
	return row, 0
}

// table tells of each byte how it is shown.
func table() [256]string {
	var made [256]string
	for b := range made {
		made[b] = fmt.Sprintf("\\x%02x", b)
	}
	for b := 33; b <= 126; b++ {
		made[b] = one(b)
	}
	made['"'], made['\\'] = "\\\"", "\\\\"
	return made
}

func wantQuote(s string) (string, api.Errno) {
	if !may(s) {
		return "", 6
	}
	shown, text := table(), "\""
	for place := 0; place < len(s); place++ {
		text += shown[s[place]]
	}
	return text + "\"", 0
}

// backwards is the table, asked by what is shown.
func backwards() map[string]byte {
	made := map[string]byte{}
	for b, text := range table() {
		made[text] = byte(b)
	}
	return made
}

// wantPlain takes from a text, as long as it can, what the table has.
func wantPlain(shown map[string]byte, s string) (string, int, api.Errno) {
	if s == "" || s[0] != '"' {
		return "", 0, 6
	}
	var read []byte
	at := 1
taking:
	for {
		for _, length := range []int{1, 2, 4} {
			if at+length > len(s) {
				continue
			}
			if b, is := shown[s[at:at+length]]; is {
				read, at = append(read, b), at+length
				continue taking
			}
		}
		break
	}
	if at == len(s) || s[at] != '"' {
		return "", at, 6
	}
	if at++; at < len(s) {
		return "", at, 6
	}
	if !may(string(read)) {
		return "", 0, 6
	}
	return string(read), 0, 0
}

func checkCheck(t *testing.T, s string) {
	t.Helper()
	err, want := Check(s), api.Errno(6)
	if may(s) {
		want = 0
	}
	if err != want {
		t.Fatalf("Check of %s is %d, want %d", short(s), err, want)
	}
}

func checkBucket(t *testing.T, s string) {
	t.Helper()
	number, err := Bucket(s)
	want, wants := bucket(s), api.Errno(0)
	if !may(s) {
		want, wants = 0, 6
	}
	if number != want || err != wants {
		t.Fatalf("Bucket of %s is %d, %d, want %d, %d", short(s), number, err, want, wants)
	}
}

func checkLess(t *testing.T, a, b string) {
	t.Helper()
	if is := Less(a, b); is != ahead(a, b) {
		t.Fatalf("Less of %s and %s is %v", short(a), short(b), is)
	}
}

func checkSort(t *testing.T, l []string) {
	t.Helper()
	row, err := Sort(l)
	want, wants := wantSort(l)
	if !slices.Equal(row, want) || err != wants || err != 0 && row != nil {
		t.Fatalf("Sort of the %d texts %.300q is %q, %d, want %q, %d", len(l), l[:min(len(l), 40)], row[:min(len(row), 40)], err, want[:min(len(want), 40)], wants)
	}
}

func checkQuote(t *testing.T, s string) {
	t.Helper()
	text, err := Quote(s)
	if want, wants := wantQuote(s); text != want || err != wants {
		t.Fatalf("Quote of %s is %s, %d, want %s, %d", short(s), text, err, want, wants)
	}
}

func checkPlain(t *testing.T, shown map[string]byte, s string) {
	t.Helper()
	read, place, err := Plain(s)
	if want, at, wants := wantPlain(shown, s); read != want || place != at || err != wants {
		t.Fatalf("Plain of %s is %q, %d, %d, want %q, %d, %d", short(s), read, place, err, want, at, wants)
	}
}

// refusedPlain tells that a text is refused, and where something else begins.
func refusedPlain(t *testing.T, s string, at int) {
	t.Helper()
	read, place, err := Plain(s)
	if read != "" || place != at || err != 6 {
		t.Fatalf("Plain of %s is %q, %d, %d, want an error of the name at %d", short(s), read, place, err, at)
	}
}
