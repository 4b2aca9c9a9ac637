package pss_test

import (
	"testing"
)

// askOwn asks that what Encode answers verifies with its salt's length and with none of the others.
func askOwn(t *testing.T, h, bits int, salt []byte, from, to int) {
	t.Helper()
	m := mixture(len(salt)%7, uint64(bits))
	em := encoded(t, h, m, bits, salt)
	askQuick(t, h, m, em, bits, len(salt), true)
	for n := from; n <= to; n++ {
		askQuick(t, h, m, em, bits, n, n == len(salt))
	}
}

// P26.3 of salts of each length that there is room for, with each length.
func TestOwn(t *testing.T) {
	t.Parallel()
	for _, h := range hashes {
		least := plainSize(h) + 2
		for _, length := range []int{least, least + 1, least + 2, least + 3, least + 9, least + 33, 128} {
			for i, bits := range bitsFor(length) {
				room := plainRoom(h, bits)
				for n := range room + 1 {
					// Bytes that look like what stands ahead of a salt, at each place.
					salt := [][]byte{mixture(n, uint64(bits)), make([]byte, n), same(n, 1)}[(i+n)%3]
					askOwn(t, h, bits, salt, -3, room+3)
				}
			}
		}
	}
}

// P26.3 of many bits: some salts with each length, each salt with lengths beside its own.
func TestOwnOfManyBits(t *testing.T) {
	t.Parallel()
	for _, h := range hashes {
		for _, bits := range []int{2047, 8185, 8192} {
			room := plainRoom(h, bits)
			for _, n := range []int{0, plainSize(h), room} {
				askOwn(t, h, bits, mixture(n, uint64(n)), -3, room+3)
			}
			for n := 0; n <= room; n += 1 + bits/1000 {
				askOwn(t, h, bits, mixture(n, uint64(n)), n-2, n+2)
			}
		}
	}
}

// P26.3 with the byte 1 at each place of a salt of noughts, where a shorter salt could begin.
func TestOwnOfOnes(t *testing.T) {
	t.Parallel()
	for _, h := range hashes {
		for _, bits := range []int{8*plainSize(h) + 8*22 - 7, 8*plainSize(h) + 8*22} {
			for n := 1; n <= 20; n++ {
				for place := range n {
					askOwn(t, h, bits, replaced(make([]byte, n), place, 1), -1, 21)
				}
			}
		}
	}
}
