package kernel

import (
	"bytes"
	"math"
	"slices"
	"testing"

	"twoslot/api"
	"twoslot/gf"
)

// answer is what a call answers that makes a slice.
type answer struct {
	bytes []byte
	err   api.Errno
}

func answered(b []byte, e api.Errno) answer { return answer{b, e} }

// check holds an answer against the bytes that are asked for.
func check(t *testing.T, call string, got answer, want []byte) {
	t.Helper()
	if got.err != api.OK || !bytes.Equal(got.bytes, want) {
		t.Fatalf("%s is %v, %d, want %v", call, short(got.bytes), got.err, short(want))
	}
}

// refused asks for ErrSize, with nothing beside it.
func refused(t *testing.T, call string, got answer) {
	t.Helper()
	if got.err != api.ErrSize || got.bytes != nil {
		t.Fatalf("%s is %v, %d, want ErrSize", call, short(got.bytes), got.err)
	}
}

// short keeps a message readable.
func short(b []byte) []byte { return b[:min(len(b), 20)] }

// must is a call's bytes, for the laws that are made of several calls.
func must(b []byte, e api.Errno) []byte {
	if e != api.OK {
		panic(e)
	}
	return b
}

// some makes n bytes by a rule, other ones for each seed.
func some(n, seed int) []byte {
	b := make([]byte, n)
	state := uint32(seed)*2654435761 + 12345
	for i := range b {
		state = state*1664525 + 1013904223
		b[i] = byte(state >> 24)
	}
	return b
}

// everyByte has each byte once.
func everyByte() []byte {
	b := make([]byte, 256)
	for i := range b {
		b[i] = byte(i)
	}
	return b
}

// wantSum sums at one place after the other, by the field's own calls.
func wantSum(n int, c []uint8, l ...[]byte) []byte {
	var want []byte
	for i := range n {
		var at uint8
		for j := range l {
			at = gf.Add(at, gf.Mul(c[j], l[j][i]))
		}
		want = append(want, at)
	}
	return want
}

// lengths are those that the laws go through: none, few, about 256, the greatest.
func lengths() []int { return []int{0, 1, 2, 7, 8, 64, 255, 256, 257, api.MaxBytes - 1, api.MaxBytes} }

func TestP2_1Examples(t *testing.T) {
	check(t, "Xor(1 2 3, 3 2 1)", answered(Xor([]byte{1, 2, 3}, []byte{3, 2, 1})), []byte{2, 0, 2})
	refused(t, "Xor(1, 1 2)", answered(Xor([]byte{1}, []byte{1, 2})))
	check(t, "Xor(none, none)", answered(Xor(nil, nil)), nil)
	check(t, "Plus(1 0, 2, 128 1)", answered(Plus([]byte{1, 0}, 2, []byte{128, 1})), []byte{28, 2})
	check(t, "Scale(2, 128 1)", answered(Scale(2, []byte{128, 1})), []byte{29, 2})
	check(t, "Scale(0, 5)", answered(Scale(0, []byte{5})), []byte{0})
}

func TestP2_1EveryNumberAndByte(t *testing.T) {
	b, a := everyByte(), some(256, 3)
	for i := range 256 {
		c := uint8(i)
		check(t, "Scale", answered(Scale(c, b)), wantSum(256, []uint8{c}, b))
		check(t, "Plus", answered(Plus(a, c, b)), wantSum(256, []uint8{1, c}, a, b))
		check(t, "Xor", answered(Xor(bytes.Repeat([]byte{c}, 256), b)), wantSum(256, []uint8{c, 1}, bytes.Repeat([]byte{1}, 256), b))
	}
}

func TestP2_1Lengths(t *testing.T) {
	for _, n := range lengths() {
		a, b := some(n, 1), some(n, 2)
		check(t, "Xor", answered(Xor(a, b)), wantSum(n, []uint8{1, 1}, a, b))
		for _, c := range []uint8{0, 1, 2, 29, 255} {
			check(t, "Plus", answered(Plus(a, c, b)), wantSum(n, []uint8{1, c}, a, b))
			check(t, "Scale", answered(Scale(c, a)), wantSum(n, []uint8{c}, a))
		}
	}
}

func TestP2_1NoBytes(t *testing.T) {
	for _, none := range [][]byte{nil, {}, some(5, 1)[:0]} {
		check(t, "Xor", answered(Xor(none, []byte{})), nil)
		check(t, "Plus", answered(Plus([]byte{}, 7, none)), nil)
		check(t, "Scale", answered(Scale(7, none)), nil)
	}
}

func TestP2_1ZeroAndOne(t *testing.T) {
	a, b := some(300, 1), some(300, 2)
	check(t, "Plus by 0", answered(Plus(a, 0, b)), a)
	check(t, "Scale by 0", answered(Scale(0, a)), make([]byte, 300))
	check(t, "Scale by 1", answered(Scale(1, a)), a)
	check(t, "Plus by 1", answered(Plus(a, 1, b)), must(Xor(a, b)))
}

func TestP2_1SameSliceTwice(t *testing.T) {
	a := some(300, 1)
	check(t, "Xor", answered(Xor(a, a)), make([]byte, 300))
	check(t, "Plus by 1", answered(Plus(a, 1, a)), make([]byte, 300))
	check(t, "Plus by 2", answered(Plus(a, 2, a)), wantSum(300, []uint8{3}, a))
	check(t, "Xor of parts that lie over each other", answered(Xor(a[:200], a[100:])), wantSum(200, []uint8{1, 1}, a[:200], a[100:]))
}

func TestP2_1Wrong(t *testing.T) {
	long := some(api.MaxBytes+1, 1)
	refused(t, "Xor of long ones", answered(Xor(long, long)))
	refused(t, "Plus of long ones", answered(Plus(long, 2, long)))
	refused(t, "Plus of long ones by 0", answered(Plus(long, 0, long)))
	refused(t, "Scale of a long one", answered(Scale(2, long)))
	refused(t, "Scale of a long one by 0", answered(Scale(0, long)))
	for _, pair := range [][2]int{{0, 1}, {1, 0}, {1, 2}, {255, 256}, {api.MaxBytes, api.MaxBytes - 1}, {api.MaxBytes, api.MaxBytes + 1}, {api.MaxBytes + 1, api.MaxBytes}} {
		a, b := some(pair[0], 1), some(pair[1], 2)
		refused(t, "Xor of unlike ones", answered(Xor(a, b)))
		for _, c := range []uint8{0, 1, 2} {
			refused(t, "Plus of unlike ones", answered(Plus(a, c, b)))
		}
	}
	refused(t, "Plus of zeros that are unlike", answered(Plus([]byte{0}, 0, nil)))
}

func TestP2_2Examples(t *testing.T) {
	check(t, "Dot(1 2, (1 1) (128 0))", answered(Dot([]uint8{1, 2}, [][]byte{{1, 1}, {128, 0}})), []byte{28, 1})
	check(t, "Dot(none, none)", answered(Dot(nil, nil)), nil)
	refused(t, "Dot(1, (1) (2))", answered(Dot([]uint8{1}, [][]byte{{1}, {2}})))
	refused(t, "Dot(1 1, (1) (2 3))", answered(Dot([]uint8{1, 1}, [][]byte{{1}, {2, 3}})))
}

// slicesOf makes count slices of n bytes.
func slicesOf(count, n int) [][]byte {
	l := make([][]byte, count)
	for i := range l {
		l[i] = some(n, 10+i)
	}
	return l
}

func TestP2_2Lengths(t *testing.T) {
	for count := range api.MaxDrives + 1 {
		for _, n := range []int{0, 1, 5, 64, 257} {
			c, l := some(count, count), slicesOf(count, n)
			if count == 0 {
				n = 0
			}
			check(t, "Dot", answered(Dot(c, l)), wantSum(n, c, l...))
		}
	}
	c, l := some(api.MaxDrives, 1), slicesOf(api.MaxDrives, api.MaxBytes)
	check(t, "Dot of the greatest", answered(Dot(c, l)), wantSum(api.MaxBytes, c, l...))
}

func TestP2_2NoBytes(t *testing.T) {
	check(t, "Dot of lists without elements", answered(Dot([]uint8{}, [][]byte{})), nil)
	check(t, "Dot of slices without bytes", answered(Dot([]uint8{1, 2}, [][]byte{nil, {}})), nil)
}

func TestP2_2ZeroAndOne(t *testing.T) {
	a, b := some(9, 1), some(9, 2)
	check(t, "Dot by 0 and 1", answered(Dot([]uint8{0, 1}, [][]byte{a, b})), b)
	check(t, "Dot by 1 and 0", answered(Dot([]uint8{1, 0}, [][]byte{a, b})), a)
	check(t, "Dot by 0 and 0", answered(Dot([]uint8{0, 0}, [][]byte{a, b})), make([]byte, 9))
	check(t, "Dot by 1 and 1 of the same", answered(Dot([]uint8{1, 1}, [][]byte{a, a})), make([]byte, 9))
	check(t, "Dot by 5 and 4 of the same", answered(Dot([]uint8{5, 4}, [][]byte{a, a})), a)
}

func TestP2_2Wrong(t *testing.T) {
	many := api.MaxDrives + 1
	refused(t, "too many numbers", answered(Dot(some(many, 1), slicesOf(many, 3))))
	refused(t, "too many numbers, 0 all", answered(Dot(make([]uint8, many), make([][]byte, many))))
	refused(t, "too many slices", answered(Dot(some(api.MaxDrives, 1), slicesOf(many, 3))))
	refused(t, "numbers without slices", answered(Dot([]uint8{1}, nil)))
	refused(t, "slices without numbers", answered(Dot(nil, [][]byte{{1}})))
	refused(t, "slices without numbers or bytes", answered(Dot(nil, [][]byte{nil})))
	refused(t, "more numbers than slices", answered(Dot([]uint8{1, 0}, [][]byte{{1}})))
	long := some(api.MaxBytes+1, 1)
	refused(t, "a long slice", answered(Dot([]uint8{1}, [][]byte{long})))
	refused(t, "long slices by 0", answered(Dot([]uint8{0, 0}, [][]byte{long, long})))
	for at := range 3 {
		for _, other := range []int{0, 4, 6, api.MaxBytes + 1} {
			l := slicesOf(3, 5)
			l[at] = some(other, 1)
			refused(t, "a slice that is not alike", answered(Dot([]uint8{1, 0, 2}, l)))
		}
	}
}

func TestP2_3Examples(t *testing.T) {
	if !Zero([]byte{0, 0}) || !Zero(nil) || Zero([]byte{0, 1}) {
		t.Error("Zero(0 0), Zero(none), Zero(0 1)")
	}
	check(t, "Pad(1 2, 4)", answered(Pad([]byte{1, 2}, 4)), []byte{1, 2, 0, 0})
	refused(t, "Pad(1 2, 1)", answered(Pad([]byte{1, 2}, 1)))
	refused(t, "Pad(1, 65537)", answered(Pad([]byte{1}, 65537)))
}

func TestP2_3Zero(t *testing.T) {
	if !Zero([]byte{}) || !Zero(some(4, 1)[:0]) {
		t.Error("Zero of slices without bytes")
	}
	for _, n := range []int{1, 2, 64, api.MaxBytes, api.MaxBytes + 1, 3 * api.MaxBytes} {
		a := make([]byte, n)
		if !Zero(a) {
			t.Errorf("Zero of %d bytes 0", n)
		}
		for _, at := range []int{0, n / 2, n - 1} {
			for _, b := range []byte{1, 128, 255} {
				a[at] = b
				if Zero(a) {
					t.Errorf("Zero of %d bytes with %d at %d", n, b, at)
				}
				a[at] = 0
			}
		}
	}
	if spare := []byte{0, 0, 9}; !Zero(spare[:2]) {
		t.Error("Zero looks into spare room")
	}
}

func TestP2_3Pad(t *testing.T) {
	for _, n := range lengths() {
		a := some(n, 1)
		for _, to := range []int{n, n + 1, n + 300, api.MaxBytes} {
			if to > api.MaxBytes {
				continue
			}
			check(t, "Pad", answered(Pad(a, to)), append(slices.Clone(a), make([]byte, to-n)...))
		}
	}
	spare := []byte{1, 2, 3, 4}
	check(t, "Pad of a slice with spare room", answered(Pad(spare[:2], 4)), []byte{1, 2, 0, 0})
}

func TestP2_3PadWrong(t *testing.T) {
	for _, n := range lengths() {
		a := some(n, 1)
		for _, to := range []int{n - 1, -1, math.MinInt, api.MaxBytes + 1, math.MaxInt} {
			refused(t, "Pad", answered(Pad(a, to)))
		}
	}
	long := make([]byte, api.MaxBytes+1)
	for _, to := range []int{0, api.MaxBytes, api.MaxBytes + 1, api.MaxBytes + 2} {
		refused(t, "Pad of a long one", answered(Pad(long, to)))
	}
}

// guarded is a slice with spare room behind it, and all of that memory.
func guarded(n, seed int) (b, all []byte) {
	all = some(n+8, seed)
	return all[:n], all
}

func TestP2_4OnlyRead(t *testing.T) {
	a, allA := guarded(40, 1)
	b, allB := guarded(40, 2)
	c, allC := guarded(2, 3)
	room := [][]byte{a, b, a, nil}
	wasA, wasB, wasC := slices.Clone(allA), slices.Clone(allB), slices.Clone(allC)
	for name, call := range map[string]func() ([]byte, api.Errno){
		"Xor":   func() ([]byte, api.Errno) { return Xor(a, b) },
		"Plus":  func() ([]byte, api.Errno) { return Plus(a, 7, b) },
		"Plus0": func() ([]byte, api.Errno) { return Plus(a, 0, b) },
		"Plus1": func() ([]byte, api.Errno) { return Plus(a, 1, a) },
		"Scale": func() ([]byte, api.Errno) { return Scale(7, a) },
		"One":   func() ([]byte, api.Errno) { return Scale(1, a) },
		"Dot":   func() ([]byte, api.Errno) { return Dot(c, room[:2]) },
		"Dot1":  func() ([]byte, api.Errno) { return Dot([]uint8{1}, [][]byte{a}) },
		"Pad":   func() ([]byte, api.Errno) { return Pad(a, 44) },
		"Same":  func() ([]byte, api.Errno) { return Pad(a, 40) },
		"Zero":  func() ([]byte, api.Errno) { Zero(a); return make([]byte, 40), api.OK },
	} {
		got := must(call())
		got = got[:cap(got)]
		for i := range got {
			got[i] ^= 0x55
		}
		if len(got) < 40 || !bytes.Equal(allA, wasA) || !bytes.Equal(allB, wasB) || !bytes.Equal(allC, wasC) {
			t.Fatalf("%s: what was handed in has changed", name)
		}
		if len(room[0]) != 40 || &room[1][0] != &b[0] || &room[2][0] != &a[0] || room[3] != nil {
			t.Fatalf("%s: the list has changed", name)
		}
	}
}

func TestP2_4NotKept(t *testing.T) {
	a, b := some(40, 1), some(40, 2)
	answers := []answer{answered(Xor(a, b)), answered(Plus(a, 0, b)), answered(Scale(1, a)), answered(Dot([]uint8{1}, [][]byte{a})), answered(Pad(a, 40))}
	var was [][]byte
	for _, x := range answers {
		was = append(was, slices.Clone(x.bytes))
	}
	clear(a)
	clear(b)
	for i, x := range answers {
		check(t, "an answer after a later write into what was handed in", x, was[i])
	}
	again := must(Scale(1, some(40, 1)))
	clear(answers[2].bytes)
	check(t, "the same call's later answer", answer{again, api.OK}, some(40, 1))
}

func TestP2_5XorLaws(t *testing.T) {
	for _, n := range lengths() {
		a, b, c := some(n, 1), some(n, 2), some(n, 3)
		ab, bc := must(Xor(a, b)), must(Xor(b, c))
		check(t, "Xor is associative", answered(Xor(ab, c)), must(Xor(a, bc)))
		check(t, "Xor is commutative", answered(Xor(b, a)), ab)
		check(t, "Xor undoes itself", answered(Xor(ab, b)), a)
	}
}

func TestP2_5PlusAndScale(t *testing.T) {
	a, b := some(256, 1), everyByte()
	for i := range 256 {
		c := uint8(i)
		scaled := must(Scale(c, b))
		check(t, "Plus is Xor with Scale", answered(Plus(a, c, b)), must(Xor(a, scaled)))
		for _, d := range []uint8{0, 1, 2, 3, 142, 255, c} {
			check(t, "Scale by a product", answered(Scale(gf.Mul(c, d), b)), must(Scale(d, scaled)))
			check(t, "Scale by a sum", answered(Scale(gf.Add(c, d), b)), must(Xor(scaled, must(Scale(d, b)))))
		}
	}
}

func TestP2_5ZeroOfXor(t *testing.T) {
	for _, n := range []int{0, 1, 2, 64, 300} {
		a := some(n, 1)
		if !Zero(must(Xor(a, slices.Clone(a)))) {
			t.Fatalf("Zero of the Xor of the same %d bytes", n)
		}
		for at := range n {
			b := slices.Clone(a)
			b[at] ^= 1 << (at % 8)
			if Zero(must(Xor(a, b))) {
				t.Fatalf("Zero of the Xor of %d bytes that are other ones at %d", n, at)
			}
		}
	}
}

func TestP2_6OneByOne(t *testing.T) {
	for count := 1; count <= api.MaxDrives; count++ {
		c, l := some(count, 1), slicesOf(count, 70)
		total := make([]byte, 70)
		for i := range c {
			total = must(Plus(total, c[i], l[i]))
		}
		check(t, "Dot", answered(Dot(c, l)), total)
	}
}

func TestP2_6SumsOfNumbers(t *testing.T) {
	for count := range api.MaxDrives + 1 {
		c, d, l := some(count, 1), some(count, 2), slicesOf(count, 70)
		both := must(Xor(c, d))
		check(t, "Dot of numbers' sums", answered(Dot(both, l)), must(Xor(must(Dot(c, l)), must(Dot(d, l)))))
	}
}
