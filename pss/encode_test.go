package pss_test

import (
	"bytes"
	"math"
	"slices"
	"testing"

	"sconce/api"
	"sconce/hash"
	"sconce/mgf"
	"sconce/pss"
)

// askEncode asks what Encode tells, against the chapter's words; twice, of lists with others beside them, of which nothing is to be read or changed, also by whoever changes the answer.
func askEncode(t *testing.T, h int, m []byte, bits int, salt []byte) {
	t.Helper()
	want, wrong := plainEncode(h, m, bits, salt)
	for _, beside := range []byte{0, 255} {
		all, piece := among(m, beside)
		allSalt, pieceSalt := among(salt, beside)
		before, beforeSalt := slices.Clone(all), slices.Clone(allSalt)
		for range 2 {
			got, e := pss.Encode(h, piece, bits, pieceSalt)
			if e != wrong || !bytes.Equal(got, want) {
				t.Fatalf("Encode(%d, %d, %d, %d): %d, error %d, not %d, error %d", h, m, bits, salt, got, e, want, wrong)
			}
			spoil(got)
			askUnchanged(t, all, before)
			askUnchanged(t, allSalt, beforeSalt)
		}
	}
}

// P26.1 of each number of bits that there may be up to some, and some to both sides.
func TestEncode(t *testing.T) {
	t.Parallel()
	for _, h := range hashes {
		for bits := -20; bits <= 1100; bits++ {
			askEncode(t, h, []byte("a text"), bits, []byte("salt"))
			askEncode(t, h, []byte("a text"), bits, nil)
		}
		for bits := 1101; bits <= 8300; bits += 103 {
			askEncode(t, h, []byte("a text"), bits, mixture(plainSize(h), 1))
		}
		for bits := 8170; bits <= 8210; bits++ {
			askEncode(t, h, []byte("a text"), bits, nil)
		}
	}
}

// P26.1 at the edges, numbers written out.
func TestEncodeEdges(t *testing.T) {
	for _, c := range []struct {
		h, bits, salt int
		want          api.Errno
	}{
		{1, 264, 0, api.ErrShort}, {1, 265, 0, api.OK}, {1, 272, 0, api.OK}, {1, 273, 0, api.OK}, {1, 272, 1, api.ErrShort}, {1, 273, 1, api.OK}, {1, 520, 32, api.ErrShort}, {1, 521, 32, api.OK}, {1, 8184, 990, api.ErrShort}, {1, 8185, 990, api.OK}, {1, 8192, 991, api.ErrShort},
		{2, 392, 0, api.ErrShort}, {2, 393, 0, api.OK}, {2, 400, 0, api.OK}, {2, 401, 0, api.OK}, {2, 400, 1, api.ErrShort}, {2, 401, 1, api.OK}, {2, 776, 48, api.ErrShort}, {2, 777, 48, api.OK}, {2, 8184, 974, api.ErrShort}, {2, 8185, 974, api.OK}, {2, 8192, 975, api.ErrShort},
		{3, 520, 0, api.ErrShort}, {3, 521, 0, api.OK}, {3, 528, 0, api.OK}, {3, 529, 0, api.OK}, {3, 528, 1, api.ErrShort}, {3, 529, 1, api.OK}, {3, 1032, 64, api.ErrShort}, {3, 1033, 64, api.OK}, {3, 8184, 958, api.ErrShort}, {3, 8185, 958, api.OK}, {3, 8192, 959, api.ErrShort},
		{1, math.MinInt, 0, api.ErrRange}, {1, -1, 0, api.ErrRange}, {1, 0, 0, api.ErrRange}, {1, 1, 0, api.ErrShort}, {1, 7, 0, api.ErrShort}, {1, 8, 0, api.ErrShort}, {1, 9, 0, api.ErrShort}, {1, 8191, 0, api.OK}, {1, 8192, 0, api.OK}, {1, 8193, 0, api.ErrRange}, {1, math.MaxInt, 0, api.ErrRange},
		{2, math.MinInt, 0, api.ErrRange}, {2, -1, 0, api.ErrRange}, {2, 0, 0, api.ErrRange}, {2, 1, 0, api.ErrShort}, {2, 7, 0, api.ErrShort}, {2, 8, 0, api.ErrShort}, {2, 9, 0, api.ErrShort}, {2, 8191, 0, api.OK}, {2, 8192, 0, api.OK}, {2, 8193, 0, api.ErrRange}, {2, math.MaxInt, 0, api.ErrRange},
		{3, math.MinInt, 0, api.ErrRange}, {3, -1, 0, api.ErrRange}, {3, 0, 0, api.ErrRange}, {3, 1, 0, api.ErrShort}, {3, 7, 0, api.ErrShort}, {3, 8, 0, api.ErrShort}, {3, 9, 0, api.ErrShort}, {3, 8191, 0, api.OK}, {3, 8192, 0, api.OK}, {3, 8193, 0, api.ErrRange}, {3, math.MaxInt, 0, api.ErrRange},
	} {
		for i, m := range messages() {
			got, e := pss.Encode(c.h, m, c.bits, mixture(c.salt, uint64(i)))
			if e != c.want || (e != api.OK && len(got) != 0) || (e == api.OK && len(got) != plainLength(c.bits)) {
				t.Errorf("hash %d of %d bytes, %d bits, a salt of %d: %d, error %d, not %d", c.h, len(m), c.bits, c.salt, got, e, c.want)
			}
		}
	}
}

// P26.1 of messages of all kinds.
func TestEncodeMessages(t *testing.T) {
	t.Parallel()
	for _, h := range hashes {
		for i, m := range messages() {
			for _, bits := range []int{521, 528, 1023, 1024, 2047} {
				askEncode(t, h, m, bits, nil)
				askEncode(t, h, m, bits, mixture(max(0, plainRoom(h, bits)), uint64(i)))
			}
		}
		for n := range 260 {
			askEncode(t, h, mixture(n, uint64(n)), 700, []byte("salt"))
		}
	}
}

// P26.1 of salts of all kinds, with bits for just as many bytes as they need, for one fewer and for more.
func TestEncodeSalts(t *testing.T) {
	t.Parallel()
	for _, h := range hashes {
		for _, salt := range salts() {
			least := plainSize(h) + len(salt) + 2
			for _, length := range []int{least - 1, least, least + 1, least + 2, least + 8, least + 100} {
				for _, bits := range bitsFor(length) {
					askEncode(t, h, []byte("m"), bits, salt)
				}
			}
			askEncode(t, h, []byte("m"), 8192, salt)
		}
	}
}

// P26.1 of a salt of each length, beyond what there is room for.
func TestEncodeSaltLengths(t *testing.T) {
	t.Parallel()
	for _, h := range hashes {
		for _, bits := range []int{521, 1023, 1025, 2048} {
			for n := range plainLength(bits) {
				askEncode(t, h, []byte("a text"), bits, mixture(n, uint64(n)))
			}
		}
		for _, n := range []int{900, 957, 958, 959, 973, 974, 975, 989, 990, 991, 1000, 1024, 8192, 100000} {
			for _, bits := range []int{8184, 8185, 8191, 8192, 8193} {
				askEncode(t, h, []byte("a text"), bits, mixture(n, uint64(n)))
			}
		}
	}
}

// P26.1, each part by hand: H anew by hash.Sum, DB put together, masked by mgf.Mask, the highest bits made 0 for each of the eight rests of bits, the last byte.
func TestEncodeByHand(t *testing.T) {
	t.Parallel()
	for _, h := range hashes {
		size := hash.Size(h)
		for i, m := range messages() {
			for j, salt := range salts() {
				length := size + len(salt) + 2 + (i+j)%5
				bits := bitsFor(length)[(i+3*j)%8]
				got, e := pss.Encode(h, m, bits, salt)
				if e != api.OK || len(got) != length || got[length-1] != 188 {
					t.Fatalf("hash %d, %d bits: %x, error %d", h, bits, got, e)
				}
				first, _ := hash.Sum(h, m)
				sum, _ := hash.Sum(h, slices.Concat(make([]byte, 8), first, salt))
				if !bytes.Equal(got[length-1-size:length-1], sum) {
					t.Fatalf("hash %d, message %d, salt %d: %x instead of H %x", h, i, j, got, sum)
				}
				mask, _ := mgf.Mask(h, sum, length-size-1)
				db := mgf.Xor(slices.Concat(make([]byte, length-size-len(salt)-2), []byte{1}, salt), mask)
				for k := bits; k < 8*length; k++ {
					db[0] &^= 128 >> (8*length - 1 - k)
				}
				if !bytes.Equal(got[:length-1-size], db) {
					t.Fatalf("hash %d, message %d, salt %d, %d bits: %x instead of DB' %x", h, i, j, bits, got, db)
				}
			}
		}
	}
}

// P26.1: of the first byte just the highest 8 L - bits bits are 0 whatever the message is; each other one is 0 of some and 1 of others.
func TestEncodeHighestBits(t *testing.T) {
	t.Parallel()
	for _, h := range hashes {
		for _, length := range []int{plainSize(h) + 2, plainSize(h) + 3, 128} {
			for rest, bits := range bitsFor(length) {
				ones, noughts := byte(0), byte(0)
				for n := range byte(60) {
					got, e := pss.Encode(h, []byte{n}, bits, nil)
					if e != api.OK || len(got) != length {
						t.Fatalf("hash %d, %d bits: %d, error %d", h, bits, got, e)
					}
					ones |= got[0]
					noughts |= ^got[0]
				}
				if want := byte(2<<rest - 1); ones != want || noughts != 255 {
					t.Errorf("hash %d, %d bits: bits %b are 1 at times, not %b, and %b are 0", h, bits, ones, want, noughts)
				}
			}
		}
	}
}

// P26.1, P4: ErrHash, ErrRange, ErrShort, the one that comes first, and nothing beside it.
func TestEncodeErrors(t *testing.T) {
	for _, m := range [][]byte{nil, {}, {0}, []byte("a text"), mixture(1000, 1)} {
		for _, salt := range [][]byte{nil, {}, {1}, mixture(32, 1), mixture(1000, 2), mixture(100000, 3)} {
			for _, h := range noHashes {
				for _, bits := range slices.Concat(belowOne, aboveMost, []int{1, 7, 8, 9, 264, 272, 1024, 8191, 8192}) {
					askRefused(t, h, m, bits, salt, api.ErrHash)
				}
			}
			for _, h := range hashes {
				for _, bits := range slices.Concat(belowOne, aboveMost) {
					askRefused(t, h, m, bits, salt, api.ErrRange)
				}
				least := plainSize(h) + len(salt) + 2
				for length := 1; length < min(least, 100); length++ {
					askRefused(t, h, m, 8*length-7, salt, api.ErrShort)
					askRefused(t, h, m, 8*length, salt, api.ErrShort)
				}
				for _, length := range []int{least - 2, least - 1} {
					askRefused(t, h, m, min(8*length, 8192), salt, api.ErrShort)
				}
			}
		}
	}
}

// askRefused asks that Encode answers an error, and nothing beside it.
func askRefused(t *testing.T, h int, m []byte, bits int, salt []byte, want api.Errno) {
	t.Helper()
	if got, e := pss.Encode(h, m, bits, salt); e != want || len(got) != 0 {
		t.Errorf("Encode with hash %d of %d bytes, %d bits, a salt of %d: %d, error %d, not %d", h, len(m), bits, len(salt), got, e, want)
	}
}

// P2, P3: two answers share nothing with each other, with the message, with the salt, or with what the hash keeps; nil and empty ones are the same.
func TestEncodeAnswersAreNew(t *testing.T) {
	for _, h := range hashes {
		for _, length := range []int{66, 67, 97, 98, 99, 128, 129, 256, 1024} {
			for _, bits := range bitsFor(length) {
				m, salt := mixture(40, uint64(bits)), mixture(plainRoom(h, bits)/2, uint64(bits))
				first, _ := pss.Encode(h, m, bits, salt)
				kept := slices.Clone(first)
				second, _ := pss.Encode(h, m, bits, salt)
				if len(kept) != length || !bytes.Equal(first, kept) || !bytes.Equal(second, kept) {
					t.Errorf("hash %d, %d bits: two answers differ", h, bits)
				}
				spoil(first)
				if !bytes.Equal(second, kept) {
					t.Errorf("hash %d, %d bits: two answers share memory", h, bits)
				}
				spoil(m)
				spoil(salt)
				if !bytes.Equal(second, kept) {
					t.Errorf("hash %d, %d bits: an answer shares memory with an argument", h, bits)
				}
				none, _ := pss.Encode(h, nil, bits, nil)
				empty, _ := pss.Encode(h, []byte{}, bits, []byte{})
				if len(none) != length || !bytes.Equal(none, empty) {
					t.Errorf("hash %d, %d bits: nil and empty differ", h, bits)
				}
				// Nothing that was told stands behind an answer's end.
				if behind := none[len(none):cap(none)]; len(bytes.Trim(behind, "\x00")) != 0 {
					t.Errorf("hash %d, %d bits: %d behind the end", h, bits, behind)
				}
			}
		}
	}
}
