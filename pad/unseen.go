package pad

import (
	"sconce/trace"
	"sconce/word"
)

// What stands in this file counts by lengths alone: it goes over all bytes, whatever they are, and keeps what it finds by masks, so that neither how it ends nor where can be seen.

// Equal: P23.3.
func Equal(t *trace.Trace, a, b []byte) uint64 {
	size := max(len(a), len(b))
	t.Span(size)
	longA, longB := lengthened(a, size), lengthened(b, size)
	// A byte 0 at the end is not the same as none.
	unlike := uint64(len(a) ^ len(b))
	for i := range size {
		unlike |= uint64(longA[i] ^ longB[i])
	}
	return word.Zero(unlike)
}

// Find: P23.4.
func Find(t *trace.Trace, b []byte, c byte, from int) (int, uint64) {
	t.Span(len(b))
	first := notBelow0(from)
	place, found := uint64(len(b)), uint64(0)
	for i := range len(b) {
		behind := word.Less(uint64(i), first) ^ 1
		here := word.Equal(uint64(b[i]), uint64(c)) & behind & (found ^ 1)
		place = word.Select(here, uint64(i), place)
		found |= here
	}
	return int(place), found
}

// message is where the message of padded bytes begins, and 1, if they are padded as they ought to be, else 0; they are at least minRoom.
func message(t *trace.Trace, em []byte) (int, uint64) {
	begins := Equal(t, em[:headSize], head())
	end, ends := Find(t, em, 0, headSize)
	filled := word.Less(uint64(end), headSize+minFill) ^ 1
	return end + endSize, begins & ends & filled
}

// notBelow0 is n, or 0 for what is below it.
func notBelow0(n int) uint64 {
	// The highest bit is that of numbers below 0.
	return uint64(n) &^ word.Mask(uint64(n)>>63)
}

// lengthened is a copy of b in n bytes, which are not fewer: those that it hasn't are 0.
func lengthened(b []byte, n int) []byte {
	out := make([]byte, n)
	copy(out, b)
	return out
}
