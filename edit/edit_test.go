package edit

import (
	"bytes"
	"slices"
	"testing"

	"twoslot/api"
)

// rising are the bytes from one on.
func rising(many int) []byte {
	made := make([]byte, many)
	for i := range made {
		made[i] = byte(i + 1)
	}
	return made
}

// example is the image of the document's table: an object of the bytes 1 to 40 in the row 3, its stripes in 4 and 7, all of the version 5.
func example() known {
	p := exampleP()
	last := append(rising(40)[32:], make([]byte, 24)...)
	k := blank(p).whole(4, 0, 1, 5, rising(32)).whole(7, 0, 1, 5, last)
	return k.whole(3, 0, 2, 5, descBytes(p, api.Desc{Length: 40, Refs: []api.Ref{{Row: 4, Version: 5}, {Row: 7, Version: 5}}}))
}

// wanted is an answer by hand: where its raw writes go, row * 100 + drive.
type wanted struct {
	places, taken, given []int
	err                  api.Errno
}

// handed holds a call against an answer by hand, and against what the document's sentences make of it.
func handed(t *testing.T, k known, c call, want wanted) answer {
	t.Helper()
	a := answers(t, k, c)
	if !slices.Equal(places(a.l), want.places) || !slices.Equal(a.taken, want.taken) || !slices.Equal(a.given, want.given) || a.err != want.err {
		t.Fatalf("%v: it is %v, %v, %v, %d, want %v", c, places(a.l), a.taken, a.given, a.err, want)
	}
	return a
}

var free89 = []int{8, 9}

func TestP19_1Examples(t *testing.T) {
	k := example()
	for _, its := range []struct {
		c    call
		want wanted
	}{
		{set(3, free89, 6, 40, 15, []byte{99, 98}), wanted{places: []int{400, 401, 402, 300, 301, 302}}},
		{set(3, free89, 6, 40, 16, []byte{99}), wanted{places: []int{401, 402, 300, 301, 302}}},
		{set(3, free89, 6, 70, 69, []byte{99}), wanted{places: []int{800, 801, 802, 300, 301, 302}, taken: []int{8}}},
		{set(3, free89, 6, 33, 0, nil), wanted{places: []int{700, 702, 300, 301, 302}}},
		{set(3, free89, 6, 32, 0, nil), wanted{places: []int{300, 301, 302}, given: []int{7}}},
		{set(3, free89, 6, 0, 0, nil), wanted{places: []int{300, 301, 302}, given: []int{4, 7}}},
		{set(3, free89, 6, 40, 9, nil), wanted{}},
		{set(3, free89, 5, 40, 9, nil), wanted{}},
		{set(3, nil, 6, 70, 69, []byte{99}), wanted{err: api.ErrFull}},
		{set(3, free89, 5, 41, 0, nil), wanted{err: api.ErrParams}},
		{set(3, []int{9, 8}, 6, 1, 0, nil), wanted{err: api.ErrParams}},
		{set(3, free89, 6, 40, 40, []byte{99}), wanted{err: api.ErrParams}},
	} {
		handed(t, k, its.c, its.want)
	}
}

func TestP19_2Examples(t *testing.T) {
	k := example()
	nine := append(rising(39), 9)
	for _, its := range []struct {
		c    call
		want wanted
	}{
		{whole(3, free89, 6, rising(40)), wanted{}},
		{whole(3, nil, 1, rising(40)), wanted{}},
		{whole(3, free89, 6, nine), wanted{places: []int{700, 702, 300, 301, 302}}},
		{whole(3, free89, 6, rising(39)), wanted{places: []int{700, 702, 300, 301, 302}}},
		{whole(3, free89, 6, append(rising(40), 0)), wanted{places: []int{300, 301, 302}}},
		{whole(3, free89, 6, append(rising(40), make([]byte, 30)...)), wanted{places: []int{800, 801, 802, 300, 301, 302}, taken: []int{8}}},
		{whole(3, free89, 6, nil), wanted{places: []int{300, 301, 302}, given: []int{4, 7}}},
		{whole(3, free89, 6, rising(32)), wanted{places: []int{300, 301, 302}, given: []int{7}}},
		{whole(3, nil, 6, rising(65)), wanted{err: api.ErrFull}},
		{whole(3, free89, 5, nine), wanted{err: api.ErrParams}},
		{whole(3, free89, 6, make([]byte, 641)), wanted{err: api.ErrTooBig}},
	} {
		handed(t, k, its.c, its.want)
	}
}

func TestP19_3Examples(t *testing.T) {
	for _, its := range []struct {
		from, to, want int
		err            api.Errno
	}{{0, 128, 4, 0}, {0, 129, 6, 0}, {129, 0, 0, 0}, {129, 161, 2, 0}, {129, 321, 8, 0}, {129, 160, 0, 0}, {128, 129, 2, 0}, {0, 0, 0, 0}, {0, 640, 24, 0}, {640, 641, 0, api.ErrTooBig}, {641, 640, 0, api.ErrTooBig}, {-1, 999, 0, api.ErrParams}, {999, -1, 0, api.ErrParams}} {
		if got, err := Need(exampleP(), its.from, its.to); got != its.want || err != its.err {
			t.Errorf("Need from %d to %d is %d, %d, want %d, %d", its.from, its.to, got, err, its.want, its.err)
		}
	}
}

// An object that gets leaves, is changed with them, and loses them, told by hand.
func TestP19_1LeavesByHand(t *testing.T) {
	k := example()
	free := []int{0, 1, 2, 8, 9, 10}
	a := handed(t, k, set(3, free, 6, 160, 159, []byte{77}), wanted{
		places: []int{0, 1, 2, 100, 101, 102, 200, 201, 202, 800, 801, 802, 300, 301, 302},
		taken:  []int{0, 1, 2, 8},
	})
	k = k.behind(a.l...)
	handed(t, k, set(3, free[4:], 7, 160, 100, []byte{5}), wanted{places: []int{100, 102, 801, 802, 300, 301, 302}})
	handed(t, k, set(3, nil, 7, 128, 0, nil), wanted{places: []int{300, 301, 302}, given: []int{2, 8}})
	handed(t, k, set(3, nil, 7, 127, 0, nil), wanted{places: []int{101, 102, 300, 301, 302}, given: []int{2, 8}})
	handed(t, k, set(3, nil, 7, 33, 1, []byte{1}), wanted{places: []int{400, 402, 700, 701, 702, 300, 301, 302}, given: []int{0, 1, 2, 8}})
	a = handed(t, k, set(3, free[4:], 7, 161, 0, nil), wanted{
		places: []int{900, 901, 902, 1000, 1001, 1002, 300, 301, 302},
		taken:  []int{9, 10},
	})
	k = k.behind(a.l...)
	handed(t, k, set(3, nil, 8, 160, 0, nil), wanted{places: []int{300, 301, 302}, given: []int{9, 10}})
	handed(t, k, set(3, nil, 8, 161, 160, []byte{1}), wanted{places: []int{900, 902, 1000, 1002, 300, 301, 302}})
	handed(t, k, set(3, nil, 8, 161, 0, make([]byte, 161)), wanted{places: []int{
		400, 401, 402, 700, 701, 702, 0, 1, 2, 100, 101, 102, 200, 201, 202, 900, 902, 800, 801, 802, 1000, 1002, 300, 301, 302,
	}})
}

// By Whole a leaf none of whose refs change is not written, be it ahead of one that is.
func TestP19_2LeavesByHand(t *testing.T) {
	p, data := exampleP(), some(321, 5)
	k, free := blank(p).whole(3, 0, 2, 1, descBytes(p, api.Desc{})), []int{0, 1, 2, 4, 5, 6, 7, 8, 9, 10, 11, 12, 13, 14, 15}
	a := answers(t, k, whole(3, free, 2, data))
	if !slices.Equal(a.taken, free[:14]) || len(a.l) != 45 || len(a.given) != 0 {
		t.Fatalf("it is %v, taken %v, given %v", places(a.l), a.taken, a.given)
	}
	k = k.behind(a.l...) // eleven stripes in 0 to 11 but 3, leaves in 12, 13, 14
	now := bytes.Clone(data)
	now[170]++ // in the stripe 5, the first one of the leaf 1
	handed(t, k, whole(3, nil, 3, now), wanted{places: []int{600, 602, 1300, 1302, 300, 301, 302}})
	now[320]++ // in the last stripe, the only one of the leaf 2
	handed(t, k, whole(3, nil, 3, now), wanted{places: []int{600, 602, 1100, 1102, 1300, 1302, 1400, 1402, 300, 301, 302}})
	handed(t, k, whole(3, nil, 3, data[:320]), wanted{places: []int{300, 301, 302}, given: []int{11, 14}})
	handed(t, k, whole(3, nil, 3, data[:129]), wanted{places: []int{500, 501, 502, 1201, 1202, 300, 301, 302}, given: []int{6, 7, 8, 9, 10, 11, 13, 14}})
	handed(t, k, whole(3, nil, 3, data[:128]), wanted{places: []int{300, 301, 302}, given: []int{5, 6, 7, 8, 9, 10, 11, 12, 13, 14}})
	handed(t, k, whole(3, nil, 3, nil), wanted{places: []int{300, 301, 302}, given: slices.DeleteFunc(upTo(0, 15), func(row int) bool { return row == 3 })})
}
