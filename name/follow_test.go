package name

import (
	"slices"
	"strings"
	"testing"
)

func TestP21_5PlainOfQuote(t *testing.T) {
	for _, s := range names() {
		text, err := Quote(s)
		if err != 0 {
			t.Fatalf("Quote of %q is refused by %d", s, err)
		}
		if read, place, err := Plain(text); read != s || place != 0 || err != 0 {
			t.Fatalf("Plain of Quote of %q is %q, %d, %d", s, read, place, err)
		}
	}
}

// All names of two bytes.
func TestP21_5PlainOfQuoteOfTwoBytes(t *testing.T) {
	for a := range 256 {
		for b := range 256 {
			s := one(a) + one(b)
			text, err := Quote(s)
			if read, place, errs := Plain(text); read != s || place != 0 || err != 0 || errs != 0 {
				t.Fatalf("Plain of Quote of %q is %q, %d, %d", s, read, place, errs)
			}
		}
	}
}

// Every text that is read is the one by which its name is quoted, and no other; those of up to four things are gone through.
func TestP21_5QuoteOfPlain(t *testing.T) {
	read := 0
	visit := func(s string) {
		if name, _, err := Plain(s); err == 0 {
			read++
			if text, err := Quote(name); text != s || err != 0 {
				t.Fatalf("Quote of Plain of %q is %q, %d", s, text, err)
			}
		}
	}
	things := []string{`"`, `\`, `x`, `a`, `0`, `F`, `f`, `2`, ` `, "é", "\xff", `\x`, `\x0`, `\"`, `\\`, `\x20`, `\xff`, `\xFf`, `\x41`, `a"`}
	var put func(s string, left int)
	put = func(s string, left int) {
		visit(s)
		visit(`"` + s)
		visit(s + `"`)
		visit(`"` + s + `"`)
		if left > 0 {
			for _, thing := range things {
				put(s+thing, left-1)
			}
		}
	}
	put("", 4)
	if read < 10000 {
		t.Fatalf("only %d texts were read", read)
	}
}

// A text that is read is no longer read, or is read as another name, once one of its bytes is another one, is missing, or is there twice.
func TestP21_5OneByteOfAText(t *testing.T) {
	throw := dice(11)
	for _, s := range slices.Concat(plain(), thrown(100, &throw)) {
		text, _ := Quote(s)
		for at := range len(text) {
			for _, other := range []string{text[:at] + text[at+1:], text[:at+1] + text[at:], text[:at] + one(throw.below(256)) + text[at+1:], text[:at] + `\` + text[at:], text[:at] + strings.ToUpper(text[at:at+1]) + text[at+1:]} {
				read, _, err := Plain(other)
				if err == 0 && (read == s) != (other == text) {
					t.Fatalf("%q and %q are read as one name", text, other)
				}
			}
		}
	}
}

func TestP21_5NoBlanksNoControls(t *testing.T) {
	for _, s := range names() {
		text, _ := Quote(s)
		if len(text) < 3 || len(text) > 2+4*longest || text[0] != '"' || text[len(text)-1] != '"' {
			t.Fatalf("Quote of %q is %q", s, text)
		}
		for _, b := range []byte(text) {
			if b < 33 || b > 126 {
				t.Fatalf("Quote of %q is %q, with the byte %d", s, text, b)
			}
		}
	}
}

// texts are any texts, also such as are no names.
func texts() []string {
	throw := dice(13)
	return slices.Concat(plain(), wrongNames(), thrown(60, &throw), []string{"aa", "a\x00", "a\xff", "\xff\x00"})
}

func TestP21_6LessIsAnOrder(t *testing.T) {
	some := texts()
	for _, a := range some {
		for _, b := range some {
			if a == b && Less(a, b) || a != b && Less(a, b) == Less(b, a) {
				t.Fatalf("of %s and %s not just one stands ahead", short(a), short(b))
			}
			if !Less(a, b) {
				continue
			}
			for _, c := range some {
				if Less(b, c) && !Less(a, c) {
					t.Fatalf("%s does not stand ahead of %s by way of %s", short(a), short(c), short(b))
				}
			}
		}
	}
}

// many tells how often a text is in a list.
func many(l []string, s string) int {
	count := 0
	for _, other := range l {
		if other == s {
			count++
		}
	}
	return count
}

func TestP21_6SortHasJustTheNames(t *testing.T) {
	for _, l := range lists() {
		row, err := Sort(l)
		if err != 0 {
			t.Fatalf("Sort of %q is refused by %d", l, err)
		}
		for _, s := range l {
			if many(row, s) != 1 {
				t.Fatalf("Sort of %q has %q %d times", l, s, many(row, s))
			}
		}
		for _, s := range row {
			if many(l, s) == 0 {
				t.Fatalf("Sort of %q has %q", l, s)
			}
		}
		for place := 1; place < len(row); place++ {
			if !Less(row[place-1], row[place]) {
				t.Fatalf("Sort of %q has %q ahead of %q", l, row[place-1], row[place])
			}
		}
		if again, err := Sort(row); !slices.Equal(again, row) || err != 0 {
			t.Fatalf("Sort of %q is %q, %d", row, again, err)
		}
	}
}

// The row hangs on which names are there alone, not on their order, nor on how often they are there.
func TestP21_6SortInAnyOrder(t *testing.T) {
	throw := dice(17)
	for _, l := range lists() {
		want, _ := Sort(l)
		for range 5 {
			other := slices.Concat(l, l[:throw.below(len(l)+1)])
			for place := range other {
				with := throw.below(place + 1)
				other[place], other[with] = other[with], other[place]
			}
			if row, err := Sort(other); !slices.Equal(row, want) || err != 0 {
				t.Fatalf("Sort of %q is %q, %d", other, row, err)
			}
		}
	}
}

// A bucket hangs on which bytes a name has, not on their order.
func TestP21_6BucketInAnyOrder(t *testing.T) {
	throw := dice(19)
	for _, s := range names() {
		want, _ := Bucket(s)
		bytes := []byte(s)
		for range 3 {
			for place := range bytes {
				with := throw.below(place + 1)
				bytes[place], bytes[with] = bytes[with], bytes[place]
			}
			if number, err := Bucket(string(bytes)); number != want || err != 0 {
				t.Fatalf("Bucket of %q is %d, %d, of %q %d", bytes, number, err, s, want)
			}
		}
		if want < 0 || want > 3 {
			t.Fatalf("Bucket of %q is %d", s, want)
		}
	}
}

// A byte more in a name moves its bucket on by that byte.
func TestP21_6BucketOfAByteMore(t *testing.T) {
	for _, s := range plain() {
		number, _ := Bucket(s)
		if len(s) == longest {
			continue
		}
		for b := range 256 {
			for _, more := range []string{s + one(b), one(b) + s} {
				if other, err := Bucket(more); other != (number+b)%4 || err != 0 {
					t.Fatalf("Bucket of %q is %d, %d, of %q %d", more, other, err, s, number)
				}
			}
		}
	}
}
