package gf

import (
	"math"
	"math/big"
	"testing"

	"twoslot/api"
)

// longProduct multiplies the polynomials in full and then divides by the modulus: another way than Mul's.
func longProduct(a, b uint8) uint8 {
	var product int
	for i := range 8 {
		if b>>i&1 == 1 {
			product ^= int(a) << i
		}
	}
	for i := 14; i >= 8; i-- {
		if product>>i&1 == 1 {
			product ^= 0x11d << (i - 8)
		}
	}
	return uint8(product)
}

// searchedInverse looks for the one element whose product with a is 1.
func searchedInverse(t *testing.T, a uint8) uint8 {
	t.Helper()
	found := 0
	for b := range 256 {
		if longProduct(a, uint8(b)) == 1 {
			if found != 0 {
				t.Fatalf("%d has the inverses %d and %d", a, found, b)
			}
			found = b
		}
	}
	if found == 0 {
		t.Fatalf("%d has no inverse", a)
	}
	return uint8(found)
}

// products has all of Mul, for the laws that go through all triples.
func products() *[256][256]uint8 {
	var table [256][256]uint8
	for a := range 256 {
		for b := range 256 {
			table[a][b] = Mul(uint8(a), uint8(b))
		}
	}
	return &table
}

// farNumbers are exponents at the ends of what an int may be, and about 0 and the places where powers come round.
func farNumbers() []int {
	list := []int{math.MinInt32, math.MaxInt32, 1 << 20, -1 << 20, 0x123456789, -0x123456789}
	for d := range 520 {
		list = append(list, math.MinInt+d, math.MaxInt-d)
	}
	for n := -520; n <= 520; n++ {
		list = append(list, n)
	}
	return list
}

// wantPow goes by products alone, of an element that is not 0; far exponents are brought down by whole numbers that can't wrap.
func wantPow(a uint8, n int) uint8 {
	rest := new(big.Int).Mod(big.NewInt(int64(n)), big.NewInt(255)).Int64()
	product := uint8(1)
	for range rest {
		product = longProduct(product, a)
	}
	return product
}

func TestP1_1Examples(t *testing.T) {
	if x := Add(5, 3); x != 6 {
		t.Errorf("Add(5, 3) is %d", x)
	}
	for _, c := range []struct{ a, b, want uint8 }{{2, 128, 29}, {3, 7, 9}, {0, 9, 0}, {9, 0, 0}, {1, 255, 255}, {255, 1, 255}} {
		if x := Mul(c.a, c.b); x != c.want {
			t.Errorf("Mul(%d, %d) is %d, want %d", c.a, c.b, x, c.want)
		}
	}
}

func TestP1_1All(t *testing.T) {
	for a := range 256 {
		for b := range 256 {
			if x := Add(uint8(a), uint8(b)); int(x) != a^b {
				t.Fatalf("Add(%d, %d) is %d", a, b, x)
			}
			if x, want := Mul(uint8(a), uint8(b)), longProduct(uint8(a), uint8(b)); x != want {
				t.Fatalf("Mul(%d, %d) is %d, want %d", a, b, x, want)
			}
		}
	}
}

func TestP1_2Examples(t *testing.T) {
	if x, e := Inv(2); x != 142 || e != api.OK {
		t.Errorf("Inv(2) is %d, %d", x, e)
	}
	if x, e := Inv(1); x != 1 || e != api.OK {
		t.Errorf("Inv(1) is %d, %d", x, e)
	}
	if x, e := Div(29, 128); x != 2 || e != api.OK {
		t.Errorf("Div(29, 128) is %d, %d", x, e)
	}
}

func TestP1_2ByZero(t *testing.T) {
	if x, e := Inv(0); x != 0 || e != api.ErrZero {
		t.Errorf("Inv(0) is %d, %d", x, e)
	}
	for a := range 256 {
		if x, e := Div(uint8(a), 0); x != 0 || e != api.ErrZero {
			t.Errorf("Div(%d, 0) is %d, %d", a, x, e)
		}
	}
}

func TestP1_2All(t *testing.T) {
	for b := 1; b < 256; b++ {
		inverse := searchedInverse(t, uint8(b))
		if x, e := Inv(uint8(b)); x != inverse || e != api.OK {
			t.Fatalf("Inv(%d) is %d, %d, want %d", b, x, e, inverse)
		}
		for a := range 256 {
			want := longProduct(uint8(a), inverse)
			if x, e := Div(uint8(a), uint8(b)); x != want || e != api.OK {
				t.Fatalf("Div(%d, %d) is %d, %d, want %d", a, b, x, e, want)
			}
		}
	}
}

func TestP1_3Examples(t *testing.T) {
	for _, c := range []struct {
		a    uint8
		n    int
		want uint8
		err  api.Errno
	}{
		{0, 0, 1, api.OK}, {0, 5, 0, api.OK}, {0, -1, 0, api.ErrZero}, {2, 9, 58, api.OK}, {3, -2, 167, api.OK},
		{7, 0, 1, api.OK}, {7, 1, 7, api.OK}, {7, 255, 1, api.OK}, {7, -255, 1, api.OK}, {1, math.MinInt, 1, api.OK},
	} {
		if x, e := Pow(c.a, c.n); x != c.want || e != c.err {
			t.Errorf("Pow(%d, %d) is %d, %d, want %d, %d", c.a, c.n, x, e, c.want, c.err)
		}
	}
	for _, c := range []struct {
		n    int
		want uint8
	}{{8, 29}, {-1, 142}, {255, 1}, {0, 1}, {1, 2}, {7, 128}, {254, 142}} {
		if x := Exp(c.n); x != c.want {
			t.Errorf("Exp(%d) is %d, want %d", c.n, x, c.want)
		}
	}
	for _, c := range []struct {
		a    uint8
		want int
		err  api.Errno
	}{{29, 8, api.OK}, {1, 0, api.OK}, {2, 1, api.OK}, {142, 254, api.OK}, {0, 0, api.ErrZero}} {
		if n, e := Log(c.a); n != c.want || e != c.err {
			t.Errorf("Log(%d) is %d, %d, want %d, %d", c.a, n, e, c.want, c.err)
		}
	}
}

func TestP1_3PowersOfZero(t *testing.T) {
	for _, n := range farNumbers() {
		want, err := uint8(0), api.OK
		switch {
		case n == 0:
			want = 1
		case n < 0:
			err = api.ErrZero
		}
		if x, e := Pow(0, n); x != want || e != err {
			t.Fatalf("Pow(0, %d) is %d, %d, want %d, %d", n, x, e, want, err)
		}
	}
}

func TestP1_3NearPowersByProducts(t *testing.T) {
	for a := 1; a < 256; a++ {
		up, down, inverse := uint8(1), uint8(1), searchedInverse(t, uint8(a))
		for n := range 520 {
			if x, e := Pow(uint8(a), n); x != up || e != api.OK {
				t.Fatalf("Pow(%d, %d) is %d, %d, want %d", a, n, x, e, up)
			}
			if x, e := Pow(uint8(a), -n); x != down || e != api.OK {
				t.Fatalf("Pow(%d, %d) is %d, %d, want %d", a, -n, x, e, down)
			}
			up, down = longProduct(up, uint8(a)), longProduct(down, inverse)
		}
	}
}

func TestP1_3FarPowers(t *testing.T) {
	for _, a := range []uint8{1, 2, 3, 29, 128, 142, 214, 254, 255} {
		for _, n := range farNumbers() {
			want := wantPow(a, n)
			if x, e := Pow(a, n); x != want || e != api.OK {
				t.Fatalf("Pow(%d, %d) is %d, %d, want %d", a, n, x, e, want)
			}
		}
	}
	for _, n := range farNumbers() {
		if x, want := Exp(n), wantPow(2, n); x != want {
			t.Fatalf("Exp(%d) is %d, want %d", n, x, want)
		}
	}
}

func TestP1_3AllLogarithms(t *testing.T) {
	element := uint8(1)
	for n := range 255 {
		if x, e := Log(element); x != n || e != api.OK {
			t.Fatalf("Log(%d) is %d, %d, want %d", element, x, e, n)
		}
		element = longProduct(element, 2)
	}
}

func TestP1_4Pairs(t *testing.T) {
	for i := range 256 {
		a := uint8(i)
		if Add(a, a) != 0 || Add(a, 0) != a || Mul(a, 1) != a || Mul(a, 0) != 0 {
			t.Fatalf("sums and products of %d with itself, 0 and 1", a)
		}
		for j := range 256 {
			b := uint8(j)
			if Add(a, b) != Add(b, a) || Mul(a, b) != Mul(b, a) {
				t.Fatalf("%d and %d do not commute", a, b)
			}
			if (Mul(a, b) == 0) != (a == 0 || b == 0) {
				t.Fatalf("Mul(%d, %d) is %d", a, b, Mul(a, b))
			}
			if b == 0 {
				continue
			}
			if x, e := Div(Mul(a, b), b); x != a || e != api.OK {
				t.Fatalf("Div does not undo Mul of %d and %d: %d, %d", a, b, x, e)
			}
		}
	}
}

func TestP1_4Triples(t *testing.T) {
	mul := products()
	for i := range 256 {
		for j := range 256 {
			for k := range 256 {
				a, b, c := uint8(i), uint8(j), uint8(k)
				if Add(Add(a, b), c) != Add(a, Add(b, c)) || mul[mul[a][b]][c] != mul[a][mul[b][c]] {
					t.Fatalf("%d, %d and %d are not associative", a, b, c)
				}
				if mul[a][Add(b, c)] != Add(mul[a][b], mul[a][c]) {
					t.Fatalf("the product of %d with the sum of %d and %d", a, b, c)
				}
			}
		}
	}
}

func TestP1_5Exp(t *testing.T) {
	for n := -300; n <= 300; n++ {
		for m := -300; m <= 300; m++ {
			if Exp(n+m) != Mul(Exp(n), Exp(m)) {
				t.Fatalf("Exp of the sum of %d and %d", n, m)
			}
		}
	}
	for _, n := range farNumbers() {
		if n <= math.MaxInt-255 && Exp(n) != Exp(n+255) {
			t.Fatalf("Exp of %d and of 255 more", n)
		}
	}
}

func TestP1_5LogUndoesExp(t *testing.T) {
	for a := 1; a < 256; a++ {
		n, e := Log(uint8(a))
		if e != api.OK || n < 0 || n > 254 || Exp(n) != uint8(a) {
			t.Fatalf("Exp of Log(%d), which is %d, %d", a, n, e)
		}
	}
	for n := range 255 {
		if x, e := Log(Exp(n)); x != n || e != api.OK {
			t.Fatalf("Log of Exp(%d) is %d, %d", n, x, e)
		}
	}
}

func TestP1_5PowOfSums(t *testing.T) {
	pairs := [][2]int{
		{math.MinInt, math.MaxInt}, {math.MinInt, 0}, {math.MinInt, 255}, {math.MinInt + 1, -1},
		{math.MaxInt, 0}, {math.MaxInt, -1}, {math.MaxInt - 255, 255}, {1 << 62, 1<<62 - 1}, {-1 << 62, -1 << 62},
	}
	for n := -20; n <= 20; n++ {
		for m := -20; m <= 20; m++ {
			pairs = append(pairs, [2]int{n, m})
		}
	}
	for i := range 256 {
		for _, p := range pairs {
			x, e := Pow(uint8(i), p[0])
			y, f := Pow(uint8(i), p[1])
			if e != api.OK || f != api.OK {
				continue
			}
			if z, e := Pow(uint8(i), p[0]+p[1]); z != Mul(x, y) || e != api.OK {
				t.Fatalf("Pow of %d by the sum of %d and %d is %d, %d", i, p[0], p[1], z, e)
			}
		}
	}
}
