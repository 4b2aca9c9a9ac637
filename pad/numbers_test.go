package pad_test

import (
	"bytes"
	"math"
	"slices"
	"testing"

	"sconce/script"
	"sconce/trace"
)

// leastRoom is how many bytes stand around a message at least, mostBytes how many are padded at most.
const (
	leastRoom = 11
	mostBytes = 1024
)

var belowNought = []int{-1, -2, -11, -12, -1024, math.MinInt32, math.MinInt + 1, math.MinInt + 11, math.MinInt}

var aboveMost = []int{1025, 1026, 1035, 2048, 65536, 1 << 31, 1 << 32, 1<<32 + 64, math.MaxInt - 11, math.MaxInt - 1, math.MaxInt}

// spread tells words that are spread, others for each start.
func spread(start uint64) func() uint64 {
	w := 0x9e3779b97f4a7c15 * (2*start + 1)
	return func() uint64 {
		w ^= w << 13
		w ^= w >> 7
		w ^= w << 17
		return w
	}
}

// filled has n bytes that are spread and not 0.
func filled(n int, start uint64) []byte {
	b := make([]byte, n)
	next := spread(start)
	for i := range b {
		b[i] = byte(1 + next()>>20%255)
	}
	return b
}

// mixture has n bytes that are spread, every third or so being 0.
func mixture(n int, start uint64) []byte {
	b := filled(n, start)
	next := spread(start + 1000)
	for i := range b {
		if next()>>20%3 == 0 {
			b[i] = 0
		}
	}
	return b
}

// replaced is a copy of b with another byte at a place.
func replaced(b []byte, place int, value byte) []byte {
	out := slices.Clone(b)
	out[place] = value
	return out
}

// padded has a fill of so many bytes and a message, as they ought to stand.
func padded(fill int, m []byte) []byte {
	return slices.Concat([]byte{0, 2}, filled(fill, uint64(fill)), []byte{0}, m)
}

// sparse are the bytes of b with as many noughts ahead of each and at the end.
func sparse(b []byte, noughts int) []byte {
	var out []byte
	for _, value := range b {
		out = append(append(out, make([]byte, noughts)...), value)
	}
	return append(out, make([]byte, noughts)...)
}

// room has a list in the middle of other bytes, and a piece of it that is the list.
func room(list []byte, beside byte) (all, piece []byte) {
	all = slices.Concat(bytes.Repeat([]byte{beside}, 20), list, bytes.Repeat([]byte{beside}, 20))
	return all, all[20 : 20+len(list)]
}

// spoil changes all that an answer gives whoever has it to change.
func spoil(b []byte) {
	b = b[:cap(b)]
	for i := range b {
		b[i] ^= 0xa5
	}
}

// traces are none, an empty one, one that no call has made, and one that holds something.
func traces() []*trace.Trace {
	begun := trace.New()
	begun.Span(3)
	begun.Branch(true)
	return []*trace.Trace{nil, trace.New(), {}, begun}
}

// askUnchanged asks that a list is what it was.
func askUnchanged(t *testing.T, list, before []byte) {
	t.Helper()
	if !bytes.Equal(list, before) {
		t.Fatalf("an argument was changed: %d, it was %d", list, before)
	}
}

// scripts are new ones of the same bytes, one for each call.
func scripts(b []byte) func() *script.Script {
	return func() *script.Script { return script.New(b) }
}
