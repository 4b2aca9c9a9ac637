package pss_test

import (
	"bytes"
	"math"
	"slices"
	"testing"
)

// mostBits is how many bits a block has at most.
const mostBits = 8192

// hashes are all that there are.
var hashes = []int{1, 2, 3}

// noHashes are numbers of none.
var noHashes = []int{math.MinInt, math.MinInt + 1, math.MinInt32, -1, -2, -3, 0, 4, 5, 16, 255, 257, 1<<8 + 2, 1<<32 + 1, 1<<62 + 3, math.MaxInt - 1, math.MaxInt}

// belowOne are bits, fewer than there have to be.
var belowOne = []int{math.MinInt, math.MinInt + 1, math.MinInt + 7, math.MinInt + 272, math.MinInt32, -8192, -272, -8, -7, -2, -1, 0}

// aboveMost are bits, more than there may be.
var aboveMost = []int{8193, 8194, 8199, 8200, 8201, 16384, 65536, 1 << 31, 1 << 32, 1<<32 + 272, 1<<62 + 512, math.MaxInt - 8, math.MaxInt - 7, math.MaxInt - 6, math.MaxInt - 1, math.MaxInt}

// farLengths are lengths of no salt that there is room for.
var farLengths = []int{math.MinInt, math.MinInt + 1, math.MinInt + 34, math.MinInt + 50, math.MinInt + 66, math.MinInt32, -1024, -66, -34, -2, -1, 991, 1000, 1023, 1024, 1025, 65536, 1 << 31, 1 << 32, 1<<32 + 4, 1 << 62, math.MaxInt - 66, math.MaxInt - 65, math.MaxInt - 50, math.MaxInt - 34, math.MaxInt - 33, math.MaxInt - 2, math.MaxInt - 1, math.MaxInt}

// spread tells words that are spread, others for each start.
func spread(start uint64) func() uint64 {
	w := 0x9e3779b97f4a7c15 * (2*start + 1)
	return func() uint64 {
		w ^= w << 13
		w ^= w >> 7
		w ^= w << 17
		return w
	}
}

// mixture has n bytes that are spread, every third or so being 0, 1 or 255.
func mixture(n int, start uint64) []byte {
	b := make([]byte, n)
	next := spread(start)
	for i := range b {
		w := next() >> 20
		b[i] = []byte{0, 1, 255, byte(w >> 8), byte(w >> 16), byte(w >> 24), byte(w >> 8), byte(w >> 16)}[w%8]
	}
	return b
}

// replaced is a copy of b with another byte at a place.
func replaced(b []byte, place int, value byte) []byte {
	out := slices.Clone(b)
	out[place] = value
	return out
}

// same has n times the same byte.
func same(n int, value byte) []byte {
	return bytes.Repeat([]byte{value}, n)
}

// among has a list in the middle of other bytes, and a piece of it that is the list.
func among(list []byte, beside byte) (all, piece []byte) {
	all = slices.Concat(same(70, beside), list, same(70, beside))
	return all, all[70 : 70+len(list)]
}

// spoil changes all that an answer gives whoever has it to change.
func spoil(b []byte) {
	b = b[:cap(b)]
	for i := range b {
		b[i] ^= 0xa5
	}
}

// askUnchanged asks that a list is what it was.
func askUnchanged(t *testing.T, list, before []byte) {
	t.Helper()
	if !bytes.Equal(list, before) {
		t.Fatalf("an argument was changed: %d, it was %d", list, before)
	}
}

// messages are of no bytes, of one and of many, with the last block of each hash just full, and to both sides of that.
func messages() [][]byte {
	list := [][]byte{nil, {}, {0}, {1}, {255}, []byte("m"), []byte("a text"), {0, 0}}
	for i, n := range []int{55, 56, 57, 63, 64, 65, 111, 112, 113, 127, 128, 129, 240, 256, 1000, 10000} {
		list = append(list, mixture(n, uint64(i)))
	}
	return list
}

// salts are nil, of no bytes, of one, of as many as a hash has, to both sides of that, and of many; some begin as what stands ahead of a salt ends.
func salts() [][]byte {
	list := [][]byte{nil, {}, {0}, {1}, {2}, {255}, {0, 0}, {0, 1}, {1, 0}, {1, 1}, {0, 0, 1}, []byte("salt")}
	for i, n := range []int{7, 8, 9, 15, 16, 20, 31, 32, 33, 47, 48, 49, 63, 64, 65, 100, 127, 128, 200} {
		list = append(list, mixture(n, uint64(i)), make([]byte, n), same(n, 1), same(n, 255))
	}
	return list
}

// bitsFor are numbers of bits that need so many bytes: each of the eight that there are.
func bitsFor(length int) []int {
	var list []int
	for rest := range 8 {
		list = append(list, 8*length-7+rest)
	}
	return list
}
