package sign_test

import (
	"bytes"
	"slices"
	"testing"

	"sconce/api"
	"sconce/sign"
)

// askEncode asks what Encode tells, against the chapter's words; twice, of a list with others beside it, of which nothing is to be read or changed, also by whoever changes the answer.
func askEncode(t *testing.T, h int, m []byte, k int) {
	t.Helper()
	want, wrong := plainEncode(h, m, k)
	for _, beside := range []byte{0, 255} {
		all, piece := among(m, beside)
		before := slices.Clone(all)
		for range 2 {
			got, e := sign.Encode(h, piece, k)
			if e != wrong || !bytes.Equal(got, want) {
				t.Fatalf("Encode(%d, %d, %d): %d, error %d, not %d, error %d", h, m, k, got, e, want, wrong)
			}
			spoil(got)
			askUnchanged(t, all, before)
		}
	}
}

// P25.1 of each k that there may be, and some to both sides.
func TestEncode(t *testing.T) {
	t.Parallel()
	for _, h := range hashes {
		for k := -100; k <= 1200; k++ {
			askEncode(t, h, []byte("a text"), k)
		}
	}
}

// P25.1 at the edges, numbers written out.
func TestEncodeEdges(t *testing.T) {
	for _, c := range []struct {
		h, k int
		want api.Errno
	}{
		{1, -1, api.ErrRange}, {1, 0, api.ErrShort}, {1, 1, api.ErrShort}, {1, 61, api.ErrShort}, {1, 62, api.OK}, {1, 63, api.OK}, {1, 1024, api.OK}, {1, 1025, api.ErrRange},
		{2, -1, api.ErrRange}, {2, 0, api.ErrShort}, {2, 1, api.ErrShort}, {2, 77, api.ErrShort}, {2, 78, api.OK}, {2, 79, api.OK}, {2, 1024, api.OK}, {2, 1025, api.ErrRange},
		{3, -1, api.ErrRange}, {3, 0, api.ErrShort}, {3, 1, api.ErrShort}, {3, 93, api.ErrShort}, {3, 94, api.OK}, {3, 95, api.OK}, {3, 1024, api.OK}, {3, 1025, api.ErrRange},
	} {
		for _, m := range messages() {
			got, e := sign.Encode(c.h, m, c.k)
			if e != c.want || (e != api.OK && len(got) != 0) || (e == api.OK && len(got) != c.k) {
				t.Errorf("hash %d of %d bytes, %d: %d, error %d, not %d", c.h, len(m), c.k, got, e, c.want)
			}
		}
	}
}

// P25.1 of messages of all kinds, in blocks of all sizes.
func TestEncodeMessages(t *testing.T) {
	t.Parallel()
	for _, h := range hashes {
		for _, m := range messages() {
			for _, k := range sizesFor(h) {
				askEncode(t, h, m, k)
			}
		}
	}
}

// P25.1 of a message of each length, beyond two blocks of the hash.
func TestEncodeLengths(t *testing.T) {
	t.Parallel()
	for _, h := range hashes {
		for n := range 400 {
			askEncode(t, h, mixture(n, uint64(n)), 128)
			askEncode(t, h, make([]byte, n), len(plainTold(h, nil))+11)
		}
	}
}

// P25.1, P4: ErrHash, ErrRange, ErrShort, the one that comes first, and nothing beside it.
func TestEncodeErrors(t *testing.T) {
	for _, m := range messages() {
		for _, h := range noHashes {
			for _, k := range slices.Concat(belowNought, aboveMost, []int{0, 1, 11, 30, 61, 62, 78, 94, 256, 1024}) {
				askRefused(t, h, m, k, api.ErrHash)
			}
		}
		for _, h := range hashes {
			for _, k := range slices.Concat(belowNought, aboveMost) {
				askRefused(t, h, m, k, api.ErrRange)
			}
			size := len(plainTold(h, nil))
			for _, k := range []int{0, 1, 2, 3, 10, 11, 19, size - 1, size, size + 1, size + 2, size + 3, size + 9, size + 10} {
				askRefused(t, h, m, k, api.ErrShort)
			}
		}
	}
}

// askRefused asks that Encode answers an error, and nothing beside it.
func askRefused(t *testing.T, h int, m []byte, k int, want api.Errno) {
	t.Helper()
	if got, e := sign.Encode(h, m, k); e != want || len(got) != 0 {
		t.Errorf("Encode with hash %d of %d bytes, %d: %d, error %d, not %d", h, len(m), k, got, e, want)
	}
}

// P2, P3: two answers share nothing with each other, with the message, or with what the hash keeps; nil and empty messages are the same.
func TestEncodeAnswersAreNew(t *testing.T) {
	for _, h := range hashes {
		for _, k := range sizesFor(h) {
			m := mixture(40, uint64(k))
			first, _ := sign.Encode(h, m, k)
			kept := slices.Clone(first)
			second, _ := sign.Encode(h, m, k)
			if !bytes.Equal(first, kept) || !bytes.Equal(second, kept) {
				t.Errorf("hash %d, %d bytes: two answers differ", h, k)
			}
			spoil(first)
			if !bytes.Equal(second, kept) {
				t.Errorf("hash %d, %d bytes: two answers share memory", h, k)
			}
			spoil(m)
			if !bytes.Equal(second, kept) {
				t.Errorf("hash %d, %d bytes: an answer shares memory with the message", h, k)
			}
			none, _ := sign.Encode(h, nil, k)
			empty, _ := sign.Encode(h, []byte{}, k)
			if !bytes.Equal(none, empty) {
				t.Errorf("hash %d, %d bytes: nil and empty differ", h, k)
			}
			// Nothing that was told stands behind an answer's end.
			if behind := none[len(none):cap(none)]; len(bytes.Trim(behind, "\x00")) != 0 {
				t.Errorf("hash %d, %d bytes: %d behind the end", h, k, behind)
			}
		}
	}
}
