package oaep

import (
	"sconce/hash"
	"sconce/pad"
	"sconce/trace"
	"sconce/word"
)

// What stands in this file counts by lengths alone: it goes over all of a block's bytes, whatever they are, and keeps what it finds by masks, so that neither what is wrong with a block nor where its message begins can be seen.

// cut are the parts of a block, with a seed of so many bytes: the first byte, the seed, DB. They are the block's own memory, to be masked in their place.
func cut(block []byte, size int) (first, seed, db []byte) {
	return block[:firstSize], block[firstSize : firstSize+size], block[firstSize+size:]
}

// unmasked is a copy of a padded block with its seed and DB as they were ahead of the masks.
func unmasked(t *trace.Trace, h int, em []byte) []byte {
	block := make([]byte, len(em))
	copy(block, em)
	_, seed, db := cut(block, hash.Size(h))
	lay := masks(t, h)
	lay(seed, db)
	lay(db, seed)
	return block
}

// message is where the message of an unmasked block begins, and 1, if the block is as it ought to be with this hash of a label, else 0; it has at least as many bytes as stand around a message.
func message(t *trace.Trace, block, named []byte) (int, uint64) {
	first, _, db := cut(block, len(named))
	begins := pad.Equal(t, first, []byte{0})
	labelled := pad.Equal(t, db[:len(named)], named)
	rest := db[len(named):]
	end, ends := pad.Find(t, rest, 1, 0)
	filled := noughts(t, rest, end)
	return len(block) - len(rest) + end + endSize, begins & labelled & ends & filled
}

// noughts is 1, if all bytes of b ahead of a place are 0, else 0.
func noughts(t *trace.Trace, b []byte, place int) uint64 {
	t.Span(len(b))
	other := uint64(0)
	for i := range len(b) {
		ahead := word.Less(uint64(i), uint64(place))
		other |= uint64(b[i]) & word.Mask(ahead)
	}
	return word.Zero(other)
}
