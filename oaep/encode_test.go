package oaep_test

import (
	"bytes"
	"math"
	"slices"
	"testing"

	"sconce/api"
	"sconce/oaep"
	"sconce/script"
)

// askEncode asks what Encode tells of a script's bytes, and what is left of them, against the chapter's words; twice, of lists with others beside them, of which nothing is to be read or changed, also by whoever changes the answer.
func askEncode(t *testing.T, h int, label, m []byte, k int, laid []byte) {
	t.Helper()
	want, wrong, left := plainEncode(h, label, m, k, laid)
	for _, beside := range []byte{0, 255} {
		allM, pieceM := among(m, beside)
		allLabel, pieceLabel := among(label, beside)
		beforeM, beforeLabel := slices.Clone(allM), slices.Clone(allLabel)
		for range 2 {
			s := script.New(laid)
			got, e := oaep.Encode(h, pieceLabel, pieceM, k, s)
			if e != wrong || !bytes.Equal(got, want) || s.Left() != left {
				t.Fatalf("Encode(%d, %d, %d, %d) of script %d: %d, error %d, %d left, not %d, error %d, %d left", h, label, m, k, laid, got, e, s.Left(), want, wrong, left)
			}
			spoil(got)
			askUnchanged(t, allM, beforeM)
			askUnchanged(t, allLabel, beforeLabel)
		}
	}
}

// P24.1 of messages at the edges of each room, with more bytes in the script than are read.
func TestEncode(t *testing.T) {
	t.Parallel()
	for _, h := range hashes {
		for _, k := range sizesFor(h) {
			laid := mixture(200, uint64(k))
			room, _ := plainRoom(h, k)
			for _, n := range lengthsFor(room) {
				askEncode(t, h, []byte("l"), mixture(n, uint64(n)), k, laid)
				askEncode(t, h, nil, make([]byte, n), k, laid)
				askEncode(t, h, []byte{0}, bytes.Repeat([]byte{255}, n), k, laid)
				askEncode(t, h, []byte{}, bytes.Repeat([]byte{1}, n), k, laid)
			}
		}
	}
}

// P24.1 of each k around the least and each length of a message up to ten bytes, right and wrong ones.
func TestEncodeSmall(t *testing.T) {
	t.Parallel()
	laid := mixture(200, 7)
	for _, h := range hashes {
		least := 2*plainSize(h) + 2
		for k := least - 3; k < least+8; k++ {
			for n := range 11 {
				askEncode(t, h, filled(n, 2), filled(n, uint64(n)), k, laid)
			}
		}
	}
}

// P24.1 with all kinds of labels.
func TestEncodeLabels(t *testing.T) {
	t.Parallel()
	laid := filled(100, 8)
	for _, h := range hashes {
		for _, label := range labels() {
			for _, k := range []int{2*plainSize(h) + 2, 256, 1024} {
				room, _ := plainRoom(h, k)
				askEncode(t, h, label, mixture(room/2, 9), k, laid)
				askEncode(t, h, label, nil, k, laid)
			}
		}
		// A label's end and a message's begin aren't one and the same.
		one, _ := oaep.Encode(h, []byte("ab"), []byte("c"), 256, script.New(laid))
		other, _ := oaep.Encode(h, []byte("a"), []byte("bc"), 256, script.New(laid))
		if bytes.Equal(one, other) {
			t.Error("a label and a message run together")
		}
	}
}

// P24.1: a script that holds just what is needed, a byte more, a byte less, and nothing.
func TestEncodeScripts(t *testing.T) {
	t.Parallel()
	for _, h := range hashes {
		size := plainSize(h)
		laid := mixture(300, uint64(h))
		for _, k := range []int{2*size + 2, 2*size + 3, 256, 1024} {
			room, _ := plainRoom(h, k)
			for _, n := range lengthsFor(room) {
				m := mixture(n, 3)
				for _, b := range [][]byte{
					nil, {}, {0}, {1}, laid[:size/2], laid[:size-1], laid[:size], laid[:size+1], laid[:2*size], laid,
					make([]byte, size-1), make([]byte, size), make([]byte, size+1), bytes.Repeat([]byte{255}, size),
				} {
					askEncode(t, h, []byte("l"), m, k, b)
				}
			}
		}
	}
}

// P24.1 of one script, call behind call: each goes on where the one before has ended.
func TestEncodeGoesOn(t *testing.T) {
	for _, h := range hashes {
		size := plainSize(h)
		laid := mixture(5*size+7, uint64(h))
		s := script.New(laid)
		if _, e := s.Read(3); e != api.OK {
			t.Fatal(e)
		}
		for place := 3; place+size <= len(laid); place += size {
			got, e := oaep.Encode(h, []byte("l"), []byte("m"), 200, s)
			want, _, left := plainEncode(h, []byte("l"), []byte("m"), 200, laid[place:])
			if e != api.OK || !bytes.Equal(got, want) || s.Left() != left {
				t.Errorf("from %d on: %d, error %d, %d left", place, got, e, s.Left())
			}
			// What is refused ahead of the seed reads nothing.
			if got, e := oaep.Encode(h, nil, make([]byte, 200), 200, s); e != api.ErrMessage || len(got) != 0 || s.Left() != left {
				t.Errorf("%d, error %d, %d left", got, e, s.Left())
			}
		}
		if got, e := oaep.Encode(h, nil, nil, 200, s); e != api.ErrSpent || len(got) != 0 || s.Left() != 0 {
			t.Errorf("of a spent script: %d, error %d, %d left", got, e, s.Left())
		}
	}
}

// P24.1 of scripts that no call has made: they count as ones without bytes.
func TestEncodeOfNobodysScripts(t *testing.T) {
	for _, h := range hashes {
		for _, s := range []*script.Script{nil, {}, script.New(nil)} {
			for _, c := range []struct {
				h    int
				m    []byte
				k    int
				want api.Errno
			}{
				{0, nil, 256, api.ErrHash}, {4, nil, -1, api.ErrHash}, {h, nil, -1, api.ErrRange}, {h, nil, 1025, api.ErrRange}, {h, nil, 0, api.ErrShort}, {h, nil, 65, api.ErrShort},
				{h, []byte{1}, 2*plainSize(h) + 2, api.ErrMessage}, {h, nil, 2*plainSize(h) + 2, api.ErrSpent}, {h, []byte{}, 256, api.ErrSpent}, {h, []byte{1}, 1024, api.ErrSpent},
			} {
				if got, e := oaep.Encode(c.h, nil, c.m, c.k, s); e != c.want || len(got) != 0 || s.Left() != 0 {
					t.Errorf("Encode(%d, %d, %d): %d, error %d, not %d", c.h, c.m, c.k, got, e, c.want)
				}
			}
		}
	}
}

// P24.1, P4: ErrHash, ErrRange, ErrShort, ErrMessage, ErrSpent, the one that comes first; ahead of ErrSpent no byte of the script is read.
func TestEncodeErrors(t *testing.T) {
	scripts := [][]byte{nil, {}, {0}, filled(31, 1), filled(32, 1), filled(64, 1), filled(300, 1)}
	messages := [][]byte{nil, {}, {0}, {1, 2}, filled(100, 1), filled(958, 1), filled(1024, 1), filled(5000, 1)}
	for _, laid := range scripts {
		for _, m := range messages {
			for _, h := range noHashes {
				for _, k := range []int{math.MinInt, -1, 0, 1, 65, 66, 256, 1024, 1025, math.MaxInt} {
					askRefused(t, h, m, k, laid, api.ErrHash)
				}
			}
			for _, h := range hashes {
				for _, k := range slices.Concat(belowNought, aboveMost) {
					askRefused(t, h, m, k, laid, api.ErrRange)
				}
				for _, k := range []int{0, 1, 2, plainSize(h), 2 * plainSize(h), 2*plainSize(h) + 1} {
					askRefused(t, h, m, k, laid, api.ErrShort)
				}
			}
		}
		for _, h := range hashes {
			for _, k := range sizesFor(h) {
				room, _ := plainRoom(h, k)
				for _, more := range []int{1, 2, 3, 32, 64, plainSize(h), 2 * plainSize(h), k, 5000} {
					askRefused(t, h, mixture(room+more, 5), k, laid, api.ErrMessage)
				}
			}
		}
	}
}

// askRefused asks that Encode answers an error, nothing beside it, and leaves the script where it was, whatever the label is.
func askRefused(t *testing.T, h int, m []byte, k int, laid []byte, want api.Errno) {
	t.Helper()
	for _, label := range [][]byte{nil, []byte("label")} {
		s := script.New(laid)
		if got, e := oaep.Encode(h, label, m, k, s); e != want || len(got) != 0 || s.Left() != len(laid) {
			t.Errorf("Encode with hash %d of %d bytes, %d: %d, error %d, not %d; %d of %d left", h, len(m), k, got, e, want, s.Left(), len(laid))
		}
	}
}

// P2: two answers share nothing with each other, with the message, the label, or the script.
func TestEncodeAnswersAreNew(t *testing.T) {
	for _, h := range hashes {
		laid := filled(300, 1)
		given := slices.Clone(laid)
		s := script.New(given)
		m, label := filled(10, 2), filled(5, 3)
		first, _ := oaep.Encode(h, label, m, 200, s)
		kept := slices.Clone(first)
		second, _ := oaep.Encode(h, label, m, 200, s)
		if !bytes.Equal(first, kept) {
			t.Error("the second answer is over the first")
		}
		for _, list := range [][]byte{first, second, m, label} {
			spoil(list)
		}
		askUnchanged(t, given, laid)
		third, e := oaep.Encode(h, filled(5, 3), filled(10, 2), 200, s)
		if want, _, _ := plainEncode(h, filled(5, 3), filled(10, 2), 200, laid[2*plainSize(h):]); e != api.OK || !bytes.Equal(third, want) {
			t.Errorf("%d, error %d, not %d", third, e, want)
		}
	}
}
