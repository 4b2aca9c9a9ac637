package sign_test

import (
	"bytes"
	"math"
	"slices"
	"testing"

	"sconce/api"
)

// mostBytes is how many bytes are padded at most.
const mostBytes = 1024

// hashes are all that there are.
var hashes = []int{api.SHA256, api.SHA384, api.SHA512}

// noHashes are numbers of none.
var noHashes = []int{math.MinInt, math.MinInt + 1, math.MinInt32, -1, -2, -3, 0, 4, 5, 16, 255, 257, 1<<8 + 2, 1<<32 + 1, 1<<62 + 3, math.MaxInt - 1, math.MaxInt}

var belowNought = []int{math.MinInt, math.MinInt + 1, math.MinInt + 62, math.MinInt + 94, math.MinInt32, -1024, -94, -62, -2, -1}

var aboveMost = []int{1025, 1026, 1086, 2048, 65536, 1 << 31, 1 << 32, 1<<32 + 62, 1<<63 - 94, math.MaxInt - 1, math.MaxInt}

// spread tells words that are spread, others for each start.
func spread(start uint64) func() uint64 {
	w := 0x9e3779b97f4a7c15 * (2*start + 1)
	return func() uint64 {
		w ^= w << 13
		w ^= w >> 7
		w ^= w << 17
		return w
	}
}

// mixture has n bytes that are spread, every third or so being 0 or 255.
func mixture(n int, start uint64) []byte {
	b := make([]byte, n)
	next := spread(start)
	for i := range b {
		w := next() >> 20
		b[i] = []byte{0, 255, byte(w >> 8), byte(w >> 16), byte(w >> 24), byte(w >> 8)}[w%6]
	}
	return b
}

// replaced is a copy of b with another byte at a place.
func replaced(b []byte, place int, value byte) []byte {
	out := slices.Clone(b)
	out[place] = value
	return out
}

// ones has n bytes 255.
func ones(n int) []byte {
	return bytes.Repeat([]byte{255}, n)
}

// among has a list in the middle of other bytes, and a piece of it that is the list.
func among(list []byte, beside byte) (all, piece []byte) {
	all = slices.Concat(bytes.Repeat([]byte{beside}, 70), list, bytes.Repeat([]byte{beside}, 70))
	return all, all[70 : 70+len(list)]
}

// spoil changes all that an answer gives whoever has it to change.
func spoil(b []byte) {
	b = b[:cap(b)]
	for i := range b {
		b[i] ^= 0xa5
	}
}

// askUnchanged asks that a list is what it was.
func askUnchanged(t *testing.T, list, before []byte) {
	t.Helper()
	if !bytes.Equal(list, before) {
		t.Fatalf("an argument was changed: %d, it was %d", list, before)
	}
}

// messages are of no bytes, of one and of many, with the last block of each hash just full, and to both sides of that.
func messages() [][]byte {
	list := [][]byte{nil, {}, {0}, {1}, {255}, []byte("m"), []byte("a text"), {0, 0}}
	for i, n := range []int{55, 56, 57, 63, 64, 65, 111, 112, 113, 119, 120, 127, 128, 129, 183, 184, 239, 240, 241, 256, 1000, 10000} {
		list = append(list, mixture(n, uint64(i)))
	}
	return list
}

// sizesFor are lengths of blocks in which there is room with this hash, at the edges and between.
func sizesFor(h int) []int {
	least := len(plainTold(h, nil)) + 11
	return []int{least, least + 1, least + 2, least + 3, least + 31, 128, 192, 255, 256, 257, 512, 1000, 1022, 1023, 1024}
}
