// Package word is layer 1: words of 64 bits, without a branch or an index on what they hold. See shared/doc/01-word.md.
package word

import "math/bits"

// size is how many bytes a word has.
const size = 8

// Add: P1.1.
func Add(a, b, carry uint64) (uint64, uint64) {
	// Add64 is defined only for a carry of 0 or 1.
	return bits.Add64(a, b, carry&1)
}

// Sub: P1.1.
func Sub(a, b, borrow uint64) (uint64, uint64) {
	// Sub64 is defined only for a borrow of 0 or 1.
	return bits.Sub64(a, b, borrow&1)
}

// Mul: P1.2.
func Mul(a, b, c, d uint64) (uint64, uint64) {
	upper, lower := bits.Mul64(a, b)
	lower, carry := bits.Add64(lower, c, 0)
	// Neither sum can wrap round, for a b + c + d is below 2^128.
	upper += carry
	lower, carry = bits.Add64(lower, d, 0)
	upper += carry
	return upper, lower
}

// Mask: P1.3.
func Mask(bit uint64) uint64 {
	return -(bit & 1)
}

// Select: P1.3.
func Select(bit, a, b uint64) uint64 {
	return b ^ Mask(bit)&(a^b)
}

// Equal: P1.4.
func Equal(a, b uint64) uint64 {
	return Zero(a ^ b)
}

// Less: P1.4.
func Less(a, b uint64) uint64 {
	_, below := bits.Sub64(a, b, 0)
	return below
}

// Zero: P1.4.
func Zero(a uint64) uint64 {
	// Of every word but 0 the word itself or its negative has the highest bit set.
	return (a|-a)>>63 ^ 1
}

// Inverse: P1.5.
func Inverse(a uint64) uint64 {
	// An odd word is its own inverse modulo 8; each step doubles how many bits are right: 3, 6, 12, 24, 48, 96.
	x := a
	for range 5 {
		x *= 2 - a*x
	}
	return x & Mask(a)
}

// Put: P1.6.
func Put(a uint64) []byte {
	var out [size]byte
	for i := range size {
		out[size-1-i] = byte(a >> (8 * i))
	}
	return out[:]
}

// Get: P1.6.
func Get(b []byte) uint64 {
	var a uint64
	for i := range min(len(b), size) {
		a = a<<8 | uint64(b[i])
	}
	return a
}
