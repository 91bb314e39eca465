package name

import (
	"slices"
	"strings"
	"testing"

	"twoslot/api"
)

// The chapter's table of examples.
func TestP21_1Examples(t *testing.T) {
	for s, want := range map[string]api.Errno{"a": 0, "": 6, strings.Repeat("a", 25): 6} {
		if err := Check(s); err != want {
			t.Errorf("Check of %q is %d", s, err)
		}
	}
	for s, want := range map[string]int{"a": 1, "ab": 3} {
		if number, err := Bucket(s); number != want || err != 0 {
			t.Errorf("Bucket of %q is %d, %d", s, number, err)
		}
	}
	if !Less("a", "b") || !Less("a", "ab") || Less("a", "a") {
		t.Error("a does not stand ahead of b and of ab, or stands ahead of itself")
	}
}

func TestP21_2Example(t *testing.T) {
	if row, err := Sort([]string{"b", "a", "ab", "a"}); !slices.Equal(row, []string{"a", "ab", "b"}) || err != 0 {
		t.Errorf("Sort of b a ab a is %q, %d", row, err)
	}
}

func TestP21_3Examples(t *testing.T) {
	for s, want := range map[string]string{`a"b`: `"a\"b"`, " \xff": `"\x20\xff"`} {
		if text, err := Quote(s); text != want || err != 0 {
			t.Errorf("Quote of %q is %s, %d", s, text, err)
		}
	}
	if read, place, err := Plain(`"a\x20"`); read != "a " || place != 0 || err != 0 {
		t.Errorf("Plain of a and a blank is %q, %d, %d", read, place, err)
	}
	for s, at := range map[string]int{`"a`: 2, `a`: 0, `"\x61"`: 1, `""`: 0, `"a" `: 3} {
		refusedPlain(t, s, at)
	}
}

func TestP21_1Check(t *testing.T) {
	for _, s := range slices.Concat(names(), wrongNames()) {
		checkCheck(t, s)
	}
}

// Bytes are counted, of whatever value, whether they make up letters or not.
func TestP21_1CheckOfEachLength(t *testing.T) {
	for length := range 3 * longest {
		for _, b := range all() {
			checkCheck(t, strings.Repeat(b, length))
		}
		for _, letter := range []string{"é", "日", "\U0001f600"} {
			checkCheck(t, strings.Repeat(letter, length))
		}
	}
}

func TestP21_1Bucket(t *testing.T) {
	for _, s := range slices.Concat(names(), wrongNames()) {
		checkBucket(t, s)
	}
}

// Sums of one less than the number of buckets, of just that, of one more, and of many times that.
func TestP21_1BucketAtItsEdges(t *testing.T) {
	for s, want := range map[string]int{
		"\x00": 0, "\x01": 1, "\x02": 2, "\x03": 3, "\x04": 0, "\x05": 1,
		"\x01\x02": 3, "\x02\x02": 0, "\x01\x03": 0, "\x03\x02": 1, "\x01\x01\x01": 3, "\x01\x01\x01\x01": 0, "\x01\x01\x01\x01\x01": 1,
		"\x00\x00\x03": 3, "\x7f": 3, "\x80": 0, "\x81": 1, "\xff": 3, "\xff\x01": 0, "\xff\x02": 1, "\xff\xff": 2,
		strings.Repeat("\xff", longest): 0, strings.Repeat("\xff", longest-1): 1, strings.Repeat("\xff", longest-1) + "\xfe": 3,
	} {
		if number, err := Bucket(s); number != want || err != 0 {
			t.Errorf("Bucket of %q is %d, %d, want %d", s, number, err, want)
		}
	}
	for a := range 256 {
		for b := range 256 {
			checkBucket(t, one(a)+one(b))
		}
	}
}

func TestP21_1Less(t *testing.T) {
	for a := range 256 {
		for b := range 256 {
			checkLess(t, one(a), one(b))
			checkLess(t, one(a)+"a", one(b))
			checkLess(t, "k"+one(a), "k"+one(b)+"z")
			checkLess(t, one(a)+one(b), one(b)+one(a))
		}
	}
	throw := dice(3)
	some := slices.Concat(plain(), wrongNames(), thrown(200, &throw))
	for _, a := range some {
		for _, b := range some {
			checkLess(t, a, b)
		}
	}
}

// One of two texts is the beginning of the other one; the empty text is that of all.
func TestP21_1LessOfBeginnings(t *testing.T) {
	for _, s := range slices.Concat(plain(), []string{strings.Repeat("ab", 100), strings.Repeat("\x00", 100)}) {
		for at := range s {
			if !Less(s[:at], s) || Less(s, s[:at]) {
				t.Fatalf("%s does not stand behind its beginning of %d bytes", short(s), at)
			}
		}
		if Less(s, s) || !Less(s, s+"\x00") {
			t.Fatalf("%s stands ahead of itself, or not ahead of what is longer", short(s))
		}
	}
	if Less("", "") || !Less("", "\x00") || Less("\x00", "") {
		t.Fatal("the empty text does not stand ahead of all others alone")
	}
}

// Any texts have an order, also such as are no names.
func TestP21_1LessOfLongTexts(t *testing.T) {
	long := strings.Repeat("日a\xff", 1<<18)
	for _, at := range []int{0, longest - 1, longest, longest + 1, 1000, len(long) - 1} {
		changed := []byte(long)
		changed[at]++ // 0xff becomes 0
		checkLess(t, long, string(changed))
		checkLess(t, string(changed), long)
		checkLess(t, long[:at], long)
	}
}

func TestP21_2Sort(t *testing.T) {
	for _, l := range [][]string{nil, {}, {"a"}, {"a", "a"}, {"a", "b"}, {"b", "a"}, {"b", "a", "b", "a"}, {"a", "ab", "b"}, {"\xff", "\x7f", "\x80", "z", "\x00"}, {"é", "z", "\xc3", "日"}, {"a\x00", "a", "\x00a"}, {"A", "a", "B", "b"}, {"10", "9", "1", "09"}} {
		checkSort(t, l)
	}
	checkSort(t, all())
	checkSort(t, slices.Concat(all(), all()))
	checkSort(t, slices.Concat(plain(), placed()))
	fall := all()
	slices.Reverse(fall)
	checkSort(t, fall)
}

// All rows of up to five names out of four, in any order, each as often as there are places.
func TestP21_2AllShortRows(t *testing.T) {
	four := []string{"b", "a", "a\xff", "\x00"}
	var put func(l []string)
	put = func(l []string) {
		checkSort(t, l)
		if len(l) < 5 {
			for _, s := range four {
				put(append(slices.Clone(l), s))
			}
		}
	}
	put(nil)
}

func TestP21_2ThrownRows(t *testing.T) {
	throw := dice(5)
	for range 2000 {
		var l []string
		for range throw.below(40) {
			l = append(l, throw.text(1+throw.below(3), "a", "b", "\xff", "\x00", "é"))
		}
		checkSort(t, l)
	}
}

// The greatest length of a list.
func TestP21_2MostNames(t *testing.T) {
	l := make([]string, greatest)
	var want []string
	for i := range l {
		l[i] = "n" + one((greatest-1-i)>>8) + one(greatest-1-i)
		want = append(want, "n"+one(i>>8)+one(i))
	}
	if row, err := Sort(l); !slices.Equal(row, want) || err != 0 {
		t.Errorf("Sort of %d names that fall is a row of %d names, %d", greatest, len(row), err)
	}
	for i := range l {
		l[i] = "name"
	}
	if row, err := Sort(l); !slices.Equal(row, []string{"name"}) || err != 0 {
		t.Errorf("Sort of %d times one name is %q, %d", greatest, row, err)
	}
}

func TestP21_3Quote(t *testing.T) {
	for _, s := range slices.Concat(names(), wrongNames()) {
		checkQuote(t, s)
	}
}

// Each byte shows what the document says of it.
func TestP21_3EachByte(t *testing.T) {
	for b, want := range map[byte]string{0: `"\x00"`, 9: `"\x09"`, 10: `"\x0a"`, 31: `"\x1f"`, 32: `"\x20"`, 33: `"!"`, '"': `"\""`, '#': `"#"`, '0': `"0"`, '[': `"["`, '\\': `"\\"`, ']': `"]"`, 'x': `"x"`, 126: `"~"`, 127: `"\x7f"`, 128: `"\x80"`, 0xa9: `"\xa9"`, 255: `"\xff"`} {
		s := string([]byte{b})
		if text, err := Quote(s); text != want || err != 0 {
			t.Errorf("Quote of the byte %d is %s, %d, want %s", b, text, err, want)
		}
		if read, place, err := Plain(want); read != s || place != 0 || err != 0 {
			t.Errorf("Plain of %s is %q, %d, %d, want the byte %d", want, read, place, err, b)
		}
	}
}

func TestP21_3Plain(t *testing.T) {
	shown := backwards()
	for _, s := range names() {
		text, _ := wantQuote(s)
		if read, place, err := Plain(text); read != s || place != 0 || err != 0 {
			t.Fatalf("Plain of %s is %q, %d, %d", text, read, place, err)
		}
		checkPlain(t, shown, text)
	}
}

// All texts of up to five things, such as may stand in a quoted name and such as may not.
func TestP21_3AllShortTexts(t *testing.T) {
	shown := backwards()
	things := []string{`"`, `\`, "x", "a", "6", "1", "F", "f", "0", " ", "\x00", "\xc3", "\xa9", "é", "~", "\x7f"}
	var put func(s string, left int)
	put = func(s string, left int) {
		checkPlain(t, shown, s)
		if left > 0 {
			for _, thing := range things {
				put(s+thing, left-1)
			}
		}
	}
	put("", 4)
	put(`"`, 4)
	put(`"\`, 4)
	put(`"\x`, 4)
	put(`"\x0`, 4)
	put(`"a\"\\`, 4)
}
