package name

import (
	"fmt"
	"slices"
	"strings"
	"testing"

	"twoslot/api"
)

func TestP21_1WrongNames(t *testing.T) {
	for _, s := range wrongNames() {
		if err := Check(s); err != api.ErrName {
			t.Errorf("Check of %s is %d", short(s), err)
		}
		if number, err := Bucket(s); number != 0 || err != api.ErrName {
			t.Errorf("Bucket of %s is %d, %d", short(s), number, err)
		}
	}
}

// refusedSort tells that a list is refused, and that nothing else is answered.
func refusedSort(t *testing.T, l []string, want api.Errno) {
	t.Helper()
	if row, err := Sort(l); row != nil || err != want {
		t.Fatalf("Sort of %d texts is a row of %d, %d, want the error %d alone", len(l), len(row), err, want)
	}
}

// A name that may not be stands at each place of the list.
func TestP21_2WrongNames(t *testing.T) {
	for _, wrong := range wrongNames() {
		for long := range 6 {
			for place := range long + 1 {
				l := slices.Insert([]string{"d", "c", "b", "a", "a"}[:long:long], place, wrong)
				refusedSort(t, l, api.ErrName)
			}
		}
		refusedSort(t, []string{wrong, wrong}, api.ErrName)
		refusedSort(t, []string{wrong, "a", ""}, api.ErrName)
	}
}

// Of a list that is too long this is told first, whatever is in it.
func TestP21_2Lengths(t *testing.T) {
	most, more := slices.Repeat([]string{"a"}, greatest), slices.Repeat([]string{"a"}, greatest+1)
	checkSort(t, most)
	refusedSort(t, more, api.ErrSize)
	refusedSort(t, append(more, more...), api.ErrSize)
	refusedSort(t, make([]string, greatest), api.ErrName)
	refusedSort(t, make([]string, greatest+1), api.ErrSize)
	for _, wrong := range []string{"", strings.Repeat("a", longest+1)} {
		for _, place := range []int{0, 1, greatest / 2, greatest - 1} {
			most[place], more[place] = wrong, wrong
			refusedSort(t, most, api.ErrName)
			refusedSort(t, more, api.ErrSize)
			most[place], more[place] = "a", "a"
		}
		more[greatest] = wrong
		refusedSort(t, more, api.ErrSize)
		refusedSort(t, more[1:], api.ErrName)
	}
}

func TestP21_3QuoteOfWrongNames(t *testing.T) {
	for _, s := range wrongNames() {
		if text, err := Quote(s); text != "" || err != api.ErrName {
			t.Errorf("Quote of %s is %s, %d", short(s), short(text), err)
		}
	}
}

// What can be read is told, but a name without bytes, or with too many, may not be: the place is 0 then.
func TestP21_3PlainOfWrongNames(t *testing.T) {
	shown := table()
	refusedPlain(t, `""`, 0)
	for b, text := range shown {
		long := strings.Repeat(text, longest)
		if read, place, err := Plain(`"` + long + `"`); read != strings.Repeat(one(b), longest) || place != 0 || err != 0 {
			t.Fatalf("Plain of the greatest name of the byte %d is %q, %d, %d", b, read, place, err)
		}
		refusedPlain(t, `"`+long+text+`"`, 0)
		refusedPlain(t, `"`+long+`a"`, 0)
		refusedPlain(t, `"a`+long+`"`, 0)
		refusedPlain(t, `"`+long+long+`"`, 0)
	}
	refusedPlain(t, `"`+strings.Repeat(`\x00`, 1<<17)+`"`, 0)
}

// Where something else stands, this is told, though the name may not be either, for it is read to its end first.
func TestP21_3PlainOfTwoWrongThings(t *testing.T) {
	refusedPlain(t, `"" `, 2)
	refusedPlain(t, `"""`, 2)
	refusedPlain(t, `""a`, 2)
	for _, many := range []int{longest + 1, 100, 1 << 16} {
		long := `"` + strings.Repeat("a", many)
		refusedPlain(t, long, many+1)
		refusedPlain(t, long+`\`, many+1)
		refusedPlain(t, long+` "`, many+1)
		refusedPlain(t, long+`\x61"`, many+1)
		refusedPlain(t, long+`""`, many+2)
		refusedPlain(t, long+`" `, many+2)
	}
	for s, at := range map[string]int{`a"`: 0, ` "a" `: 0, `"\x61\x62"`: 1, `"a \`: 2, `"\`: 1, `"\ "x`: 1, `"\n" `: 1, `"a"" `: 3} {
		refusedPlain(t, s, at)
	}
}

// Something else stands where the first quote is missing: any other byte, with a quote behind it or not.
func TestP21_3NoFirstQuote(t *testing.T) {
	for b := range 256 {
		if b != '"' {
			for _, behind := range []string{"", `"`, `a"`, `"a"`} {
				refusedPlain(t, one(b)+behind, 0)
			}
		}
	}
	refusedPlain(t, "", 0)
	refusedPlain(t, `\"a"`, 0)
	refusedPlain(t, `\x22a"`, 0)
	refusedPlain(t, "\u201ca\"", 0)
	refusedPlain(t, "\ufeff\"a\"", 0)
}

// Without the last quote the text's end is the place.
func TestP21_3NoLastQuote(t *testing.T) {
	refusedPlain(t, `"`, 1)
	for _, s := range names() {
		text, _ := wantQuote(s)
		refusedPlain(t, text[:len(text)-1], len(text)-1)
	}
}

// A text that ends within a thing ends with something else, which begins at the backslash.
func TestP21_3EndsWithinAThing(t *testing.T) {
	for _, front := range []string{``, `a`, `\\`, `\"`, `\xff`, `\x00\x00`, `\\\\`, `x`} {
		for _, rest := range []string{`\`, `\x`, `\xf`, `\x0`, `\x2`} {
			refusedPlain(t, `"`+front+rest, 1+len(front))
			if rest != `\` {
				refusedPlain(t, `"`+front+rest+`"`, 1+len(front))
			}
		}
		refusedPlain(t, `"`+front+`\"`, 3+len(front)) // the quote is the name's, none is behind it
	}
}

// Each byte stands by itself: at the beginning, within, and at the end, some of them as a byte of a letter.
func TestP21_3EachByteByItself(t *testing.T) {
	shown := backwards()
	for b := range 256 {
		s := one(b)
		for _, text := range []string{`"` + s + `"`, `"` + s + `a"`, `"a` + s + `a"`, `"a` + s + `"`, `"a"` + s, `"a"` + s + s, `"a` + s, `"` + s, `"\` + s + `"`, `"a\` + s + `a"`, `"a\\` + s + `"`, `"\x0` + s + `"`, `"\x` + s + `0"`, `"\x00` + s + `"`} {
			checkPlain(t, shown, text)
		}
		if b < 33 || b > 126 {
			refusedPlain(t, `"ab`+s+`c"`, 3)
		}
		if b != '"' && b != '\\' && b != 'x' {
			refusedPlain(t, `"a\`+s+`a"`, 2)
		}
		refusedPlain(t, `"a"`+s, 3)
	}
	for _, letter := range []string{"é", "日", "\U0001f600", "\ufffd", "\u0122", "\u015c", "\xff\xff", "\xe6\x97\"", "ａ"} {
		refusedPlain(t, `"`+letter+`"`, 1)
		refusedPlain(t, `"a`+letter+`b"`, 2)
		refusedPlain(t, `"\`+letter+`"`, 1)
		refusedPlain(t, `"\x0`+letter+`"`, 1)
		refusedPlain(t, `"a"`+letter, 3)
		refusedPlain(t, letter+`"a"`, 0)
	}
}

// Each byte may be shown in one way alone: as \x of two sixteens it is something else where it shows itself, in great letters always.
func TestP21_3EachTwoSixteens(t *testing.T) {
	for b := range 256 {
		text := fmt.Sprintf(`"k\x%02xm"`, b)
		if b < 33 || b > 126 {
			if read, place, err := Plain(text); read != "k"+one(b)+"m" || place != 0 || err != 0 {
				t.Errorf("Plain of %s is %q, %d, %d", text, read, place, err)
			}
		} else {
			refusedPlain(t, text, 2)
		}
		great := fmt.Sprintf("%02X", b)
		for _, other := range []string{great, great[:1] + fmt.Sprintf("%x", b&15), fmt.Sprintf("%x", b>>4) + great[1:]} {
			if other != fmt.Sprintf("%02x", b) {
				refusedPlain(t, `"k\x`+other+`m"`, 2)
			}
		}
		refusedPlain(t, fmt.Sprintf(`"k\X%02xm"`, b), 2)
		refusedPlain(t, fmt.Sprintf(`"k\%03om"`, b), 2)
		refusedPlain(t, fmt.Sprintf(`"k\u%04xm"`, b), 2)
	}
	for _, sixteens := range []string{"0", "f", "g0", "0g", "+1", "-1", "_1", "1_", " 1", "1 ", "0x", "x0", "00"[:1] + "\x00", "٠", "é"} {
		refusedPlain(t, `"k\x`+sixteens+`"`, 2)
		refusedPlain(t, `"k\x`+sixteens+`zz"`, 2)
	}
}

// A quote within ends the name: what is behind it is something else.
func TestP21_3AQuoteWithin(t *testing.T) {
	for s, at := range map[string]int{`"a"b"`: 3, `""a"`: 2, `"""`: 2, `"a""`: 3, `"a""b"`: 3, `"\\"a"`: 4, `"a"\`: 3, `"a"\"`: 3, `"a"\x00`: 3, "\"a\"\n": 3, "\"a\"\x00": 3, "\"a\"\xff": 3} {
		refusedPlain(t, s, at)
	}
}
