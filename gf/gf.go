// Package gf is layer 1: see shared/doc/01-gf.md.
package gf

import "twoslot/api"

const (
	// generator is the polynomial x, whose powers are all elements but 0.
	generator uint8 = 2

	// order is how many powers of the generator there are: powers of any element but 0 come round after so many.
	order = 255

	// overflow is what x^8 comes to: the modulus 11d (in sixteens) without its highest term.
	overflow uint8 = 0x1d
)

// Add is the field's sum.
func Add(a, b uint8) uint8 { return a ^ b }

// Mul is the field's product.
func Mul(a, b uint8) uint8 {
	var sum uint8
	for range 8 {
		sum ^= a & everywhere(b&1)
		a = double(a)
		b >>= 1
	}
	return sum
}

// Div is a quotient.
func Div(a, b uint8) (uint8, api.Errno) {
	inverse, err := Inv(b)
	if err != api.OK {
		return 0, err
	}
	return Mul(a, inverse), api.OK
}

// Inv is what a is to be multiplied by to come to 1.
func Inv(a uint8) (uint8, api.Errno) { return Pow(a, -1) }

// Pow is a power of a, by any number.
func Pow(a uint8, n int) (uint8, api.Errno) {
	switch {
	case a != 0:
		return power(a, exponent(n)), api.OK
	case n < 0:
		return 0, api.ErrZero
	case n == 0:
		return 1, api.OK
	}
	return 0, api.OK
}

// Exp is a power of 2.
func Exp(n int) uint8 { return power(generator, exponent(n)) }

// Log is which power of 2, by 0 to 254, a is.
func Log(a uint8) (int, api.Errno) {
	if a == 0 {
		return 0, api.ErrZero
	}
	table := logarithms()
	return int(table[a]), api.OK
}

// double is the product with x. It stands apart from Mul, which is made of it.
func double(a uint8) uint8 { return a<<1 ^ overflow&everywhere(a>>7) }

// everywhere makes a mask of a single bit, so that nothing hangs on a branch.
func everywhere(bit uint8) uint8 { return -bit }

// exponent brings n to 0 up to order - 1. It takes the remainder first: -n would wrap for the least number of all.
func exponent(n int) int {
	n %= order
	if n < 0 {
		n += order
	}
	return n
}

// power squares and multiplies; n is not below 0.
func power(a uint8, n int) uint8 {
	product := uint8(1)
	for ; n > 0; n >>= 1 {
		if n&1 == 1 {
			product = Mul(product, a)
		}
		a = Mul(a, a)
	}
	return product
}

// logarithms has for each element but 0 which power of the generator it is; the place of 0 means nothing.
func logarithms() [256]uint8 {
	var table [256]uint8
	element := uint8(1)
	for n := range order {
		table[element] = uint8(n)
		element = double(element)
	}
	return table
}
