package oaep_test

import (
	"bytes"
	"math"
	"slices"
	"testing"

	"sconce/api"
	"sconce/trace"
)

// mostBytes is how many bytes are padded at most.
const mostBytes = 1024

// hashes are all that there are.
var hashes = []int{api.SHA256, api.SHA384, api.SHA512}

// noHashes are numbers of none.
var noHashes = []int{math.MinInt, math.MinInt + 1, math.MinInt32, -1, -3, 0, 4, 5, 16, 255, 257, 1<<8 + 2, 1<<32 + 1, 1<<62 + 3, math.MaxInt - 1, math.MaxInt}

var belowNought = []int{math.MinInt, math.MinInt + 1, math.MinInt + 66, math.MinInt32, -1024, -66, -2, -1}

var aboveMost = []int{1025, 1026, 1090, 2048, 65536, 1 << 31, 1 << 32, 1<<32 + 66, 1<<63 - 130, math.MaxInt - 1, math.MaxInt}

// labels are of no bytes, of one and of many.
func labels() [][]byte {
	return [][]byte{nil, {}, {0}, {1}, []byte("l"), []byte("label"), {0, 0}, filled(55, 1), filled(56, 2), filled(64, 3), mixture(128, 4), filled(1025, 5)}
}

// spread tells words that are spread, others for each start.
func spread(start uint64) func() uint64 {
	w := 0x9e3779b97f4a7c15 * (2*start + 1)
	return func() uint64 {
		w ^= w << 13
		w ^= w >> 7
		w ^= w << 17
		return w
	}
}

// filled has n bytes that are spread and not 0.
func filled(n int, start uint64) []byte {
	b := make([]byte, n)
	next := spread(start)
	for i := range b {
		b[i] = byte(1 + next()>>20%255)
	}
	return b
}

// mixture has n bytes that are spread, every third or so being 0 or 1.
func mixture(n int, start uint64) []byte {
	b := filled(n, start)
	next := spread(start + 1000)
	for i := range b {
		if next()>>20%3 == 0 {
			b[i] = byte(next() >> 20 % 2)
		}
	}
	return b
}

// replaced is a copy of b with another byte at a place.
func replaced(b []byte, place int, value byte) []byte {
	out := slices.Clone(b)
	out[place] = value
	return out
}

// among has a list in the middle of other bytes, and a piece of it that is the list.
func among(list []byte, beside byte) (all, piece []byte) {
	all = slices.Concat(bytes.Repeat([]byte{beside}, 70), list, bytes.Repeat([]byte{beside}, 70))
	return all, all[70 : 70+len(list)]
}

// spoil changes all that an answer gives whoever has it to change.
func spoil(b []byte) {
	b = b[:cap(b)]
	for i := range b {
		b[i] ^= 0xa5
	}
}

// traces are none, an empty one, one that no call has made, and one that holds something.
func traces() []*trace.Trace {
	begun := trace.New()
	begun.Span(3)
	begun.Branch(true)
	return []*trace.Trace{nil, trace.New(), {}, begun}
}

// askUnchanged asks that a list is what it was.
func askUnchanged(t *testing.T, list, before []byte) {
	t.Helper()
	if !bytes.Equal(list, before) {
		t.Fatalf("an argument was changed: %d, it was %d", list, before)
	}
}

// lengthsFor are how many bytes a message may have where there is so much room, at the edges and between.
func lengthsFor(room int) []int {
	list := []int{0}
	for _, n := range []int{1, 2, room / 2, room - 2, room - 1, room} {
		if n > list[len(list)-1] && n <= room {
			list = append(list, n)
		}
	}
	return list
}

// sizesFor are lengths of blocks in which there is room with this hash, at the edges and between.
func sizesFor(h int) []int {
	least := 2*plainSize(h) + 2
	return []int{least, least + 1, least + 2, least + 3, least + 31, least + 32, least + 33, 192, 255, 256, 257, 512, 1000, 1022, 1023, 1024}
}
