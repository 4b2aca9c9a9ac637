package sign_test

import (
	"bytes"
	"slices"
	"testing"

	"sconce/api"
	"sconce/hash"
	"sconce/sign"
)

// askVerify asks what Verify tells, twice, of lists with others beside them, of which nothing is to be read or changed.
func askVerify(t *testing.T, h int, m, em []byte, want bool) {
	t.Helper()
	for _, beside := range []byte{0, 255} {
		all, piece := among(em, beside)
		allM, pieceM := among(m, beside)
		before, beforeM := slices.Clone(all), slices.Clone(allM)
		for range 2 {
			if got := sign.Verify(h, pieceM, piece); got != want {
				t.Fatalf("Verify(%d, %d, %d): %t, not %t", h, m, em, got, want)
			}
			askUnchanged(t, all, before)
			askUnchanged(t, allM, beforeM)
		}
	}
}

// askQuick asks what Verify tells, once.
func askQuick(t *testing.T, h int, m, em []byte, want bool) {
	t.Helper()
	if got := sign.Verify(h, m, em); got != want {
		t.Fatalf("Verify(%d, %d, %d): %t, not %t", h, m, em, got, want)
	}
}

// told is what has to verify, of plainEncode.
func told(t *testing.T, h int, m []byte, k int) []byte {
	t.Helper()
	em, wrong := plainEncode(h, m, k)
	if wrong != api.OK {
		t.Fatalf("hash %d, %d bytes: error %d", h, k, wrong)
	}
	return em
}

// P25.2 of what Encode answers, of all sizes, and of that with another message.
func TestVerify(t *testing.T) {
	t.Parallel()
	for _, h := range hashes {
		for k := len(plainTold(h, nil)) + 11; k <= mostBytes; k++ {
			em, e := sign.Encode(h, []byte("a text"), k)
			if e != api.OK {
				t.Fatal(h, k, e)
			}
			askVerify(t, h, []byte("a text"), em, true)
			askQuick(t, h, []byte("a texu"), em, false)
		}
	}
}

// P25.2 of each message with itself, and with each other one.
func TestVerifyMessages(t *testing.T) {
	t.Parallel()
	for _, h := range hashes {
		for _, m := range messages() {
			for _, k := range sizesFor(h) {
				askVerify(t, h, m, told(t, h, m, k), true)
			}
			em := told(t, h, m, 128)
			for _, other := range messages() {
				askVerify(t, h, other, em, bytes.Equal(m, other))
			}
			if len(m) > 0 {
				askQuick(t, h, m[:len(m)-1], em, false)
				askQuick(t, h, m[1:], em, false)
				askQuick(t, h, replaced(m, len(m)-1, m[len(m)-1]^1), em, false)
			}
			askQuick(t, h, append(slices.Clone(m), 0), em, false)
			askQuick(t, h, append([]byte{0}, m...), em, false)
			// A message isn't its hash.
			askQuick(t, h, em[128-hash.Size(h):], em, false)
		}
	}
}

// P25.2 with any one bit of any place another one.
func TestVerifyBits(t *testing.T) {
	t.Parallel()
	for _, h := range hashes {
		least := len(plainTold(h, nil)) + 11
		for _, k := range []int{least, least + 1, 128, 257, 1024} {
			em := told(t, h, []byte("m"), k)
			for place := range em {
				for bit := range 8 {
					em[place] ^= 1 << bit
					askQuick(t, h, []byte("m"), em, false)
					em[place] ^= 1 << bit
				}
				askQuick(t, h, []byte("m"), replaced(em, place, ^em[place]), false)
			}
			askQuick(t, h, []byte("m"), em, true)
			// Two bytes whose differences would take each other away.
			for place := range em[1:] {
				askQuick(t, h, []byte("m"), replaced(replaced(em, place, em[place]^5), place+1, em[place+1]^5), false)
			}
		}
	}
}

// P25.2 with each other byte in the places of the first two, of the last 255, of the 0 behind it, and of the first of T.
func TestVerifyValues(t *testing.T) {
	t.Parallel()
	for _, h := range hashes {
		for _, k := range []int{len(plainTold(h, nil)) + 11, 128} {
			em := told(t, h, []byte("m"), k)
			start := k - len(plainTold(h, nil))
			for _, place := range []int{0, 1, 2, start - 2, start - 1, start, k - 1} {
				for value := range 256 {
					askQuick(t, h, []byte("m"), replaced(em, place, byte(value)), byte(value) == em[place])
				}
			}
		}
	}
}

// P25.2 of each length, of any bytes and of those that would be right if so short or so long a block might be.
func TestVerifyLengths(t *testing.T) {
	t.Parallel()
	for _, h := range hashes {
		size := len(plainTold(h, nil))
		askVerify(t, h, []byte("m"), nil, false)
		askVerify(t, h, []byte("m"), []byte{}, false)
		for k := range size + 20 {
			for _, em := range [][]byte{make([]byte, k), ones(k), mixture(k, uint64(k)), told(t, h, []byte("m"), 1024)[:k], told(t, h, []byte("m"), 1024)[1024-k:], filledUp(h, []byte("m"), k)} {
				askVerify(t, h, []byte("m"), em, plainVerify(h, []byte("m"), em))
			}
			askVerify(t, h, []byte("m"), filledUp(h, []byte("m"), k), k >= size+11)
		}
		for _, k := range []int{1022, 1023, 1024, 1025, 1026, 2048, 10000} {
			askVerify(t, h, []byte("m"), filledUp(h, []byte("m"), k), k <= 1024)
			askVerify(t, h, []byte("m"), mixture(k, 1), false)
			askVerify(t, h, []byte("m"), make([]byte, k), false)
		}
	}
}

// filledUp has k bytes, as they would stand if there were no bounds for the bytes 255: what is too much is cut off in front.
func filledUp(h int, m []byte, k int) []byte {
	parts := plainTold(h, m)
	all := slices.Concat([]byte{0, 1}, ones(max(0, k-3-len(parts))), []byte{0}, parts)
	return all[len(all)-k:]
}

// P25.2: a byte cut off or laid on, in front or behind.
func TestVerifyCut(t *testing.T) {
	t.Parallel()
	for _, h := range hashes {
		for _, k := range append(sizesFor(h), 1023) {
			em := told(t, h, []byte("m"), k)
			for n := 1; n < len(em); n++ {
				askQuick(t, h, []byte("m"), em[n:], false)
				askQuick(t, h, []byte("m"), em[:n], false)
			}
			for value := range 256 {
				askQuick(t, h, []byte("m"), append([]byte{byte(value)}, em...), false)
				askQuick(t, h, []byte("m"), append(slices.Clone(em), byte(value)), false)
			}
			askQuick(t, h, []byte("m"), append(slices.Clone(em), em...), false)
			// A block whose rest is right, behind the one that was asked for.
			all := append(slices.Clone(em), 7)
			askQuick(t, h, []byte("m"), all[:k], true)
		}
	}
}

// P25.2: bytes 255 more or less, the length kept: what they take or leave is at any of the seams.
func TestVerifyFill(t *testing.T) {
	t.Parallel()
	for _, h := range hashes {
		parts := plainTold(h, []byte("m"))
		size := len(parts)
		for _, k := range []int{size + 11, size + 12, size + 13, size + 19, 128, 256, 1024} {
			for many := range k - 2 - size {
				fewer := k - 3 - size - many
				for _, more := range [][]byte{make([]byte, fewer), bytes.Repeat([]byte{1}, fewer), mixture(fewer, uint64(many))} {
					same := bytes.Equal(more, ones(fewer))
					askQuick(t, h, []byte("m"), slices.Concat([]byte{0, 1}, ones(many), []byte{0}, parts, more), fewer == 0)
					askQuick(t, h, []byte("m"), slices.Concat([]byte{0, 1}, ones(many), []byte{0}, more, parts), fewer == 0)
					askQuick(t, h, []byte("m"), slices.Concat([]byte{0, 1}, ones(many), more, []byte{0}, parts), same)
					askQuick(t, h, []byte("m"), slices.Concat([]byte{0, 1}, more, ones(many), []byte{0}, parts), same)
					askQuick(t, h, []byte("m"), slices.Concat([]byte{0}, more, []byte{1}, ones(many), []byte{0}, parts), fewer == 0)
					askQuick(t, h, []byte("m"), slices.Concat(more, []byte{0, 1}, ones(many), []byte{0}, parts), fewer == 0)
				}
			}
			for _, em := range [][]byte{
				slices.Concat([]byte{0, 1}, ones(k-2-size), parts),
				slices.Concat([]byte{1}, ones(k-2-size), []byte{0}, parts),
				slices.Concat([]byte{0}, ones(k-2-size), []byte{0}, parts),
				slices.Concat([]byte{0, 1}, ones(k-2-size), []byte{0}, parts[1:]),
				slices.Concat([]byte{0, 1}, ones(k-2-size), []byte{0}, parts[:size-1]),
				slices.Concat([]byte{0, 1}, ones(k-4-size), []byte{0}, parts, []byte{255}),
				slices.Concat([]byte{0, 1}, ones(k-3-size), []byte{0}, parts[1:], []byte{255}),
				slices.Concat([]byte{0, 1}, make([]byte, k-3-size), []byte{0}, parts),
				slices.Concat([]byte{0, 2}, mixture(k-3-size, 1), []byte{0}, parts),
				slices.Concat([]byte{0, 0}, make([]byte, k-3-size), []byte{0}, parts),
			} {
				askVerify(t, h, []byte("m"), em, false)
			}
		}
	}
}

// blockOf has k bytes, whatever the parts are that stand at its end.
func blockOf(k int, parts ...[]byte) []byte {
	end := slices.Concat(parts...)
	return slices.Concat([]byte{0, 1}, ones(k-3-len(end)), []byte{0}, end)
}

// P25.2: the prefix of another hash, none, or one that tells the same hash in other words; the hash of another message.
func TestVerifyPrefixes(t *testing.T) {
	t.Parallel()
	m, other := []byte("m"), []byte("n")
	for _, h := range hashes {
		sum, _ := hash.Sum(h, m)
		wrong, _ := hash.Sum(h, other)
		prefix := hash.Prefix(h)
		// Neither a hash without its parameter nor one without its kind is the same.
		bare := slices.Concat([]byte{48, prefix[1] - 2, 48, 11}, prefix[4:15], prefix[17:])
		for _, k := range []int{128, 129, 256, 1024} {
			askVerify(t, h, m, blockOf(k, prefix, sum), true)
			for _, em := range [][]byte{
				blockOf(k, prefix, wrong), blockOf(k, sum), blockOf(k, prefix), blockOf(k), blockOf(k, prefix, m), blockOf(k, sum, prefix), blockOf(k, bare, sum),
				blockOf(k, prefix, sum, []byte{0}), blockOf(k, prefix, []byte{0}, sum), blockOf(k, []byte{0}, prefix, sum), blockOf(k, prefix, sum[1:]), blockOf(k, prefix, sum[:len(sum)-1]),
			} {
				askVerify(t, h, m, em, false)
			}
			for _, another := range hashes {
				same, is := hash.Sum(another, m)
				if another == h || is != api.OK {
					continue
				}
				askVerify(t, h, m, blockOf(k, hash.Prefix(another), sum), false)
				askVerify(t, h, m, blockOf(k, prefix, same), false)
				askVerify(t, h, m, blockOf(k, hash.Prefix(another), same), false)
				askVerify(t, another, m, blockOf(k, prefix, sum), false)
			}
		}
	}
}

// P25.2 with hashes that are none: no, whatever the bytes are.
func TestVerifyNoHash(t *testing.T) {
	for _, h := range noHashes {
		for _, m := range [][]byte{nil, {}, []byte("m")} {
			list := [][]byte{nil, {}, {0}, make([]byte, 62), make([]byte, 1025), blockOf(11), blockOf(19), blockOf(30), blockOf(62), blockOf(128), blockOf(128, m), mixture(1024, 1)}
			for _, right := range hashes {
				list = append(list, told(t, right, m, len(plainTold(right, nil))+11), told(t, right, m, 128), told(t, right, m, 1024))
			}
			for _, em := range list {
				askVerify(t, h, m, em, false)
			}
		}
	}
}

// P25.2 of any bytes, and of blocks in which a few bytes are others.
func TestVerifyAnyBytes(t *testing.T) {
	t.Parallel()
	next := spread(77)
	for i := range uint64(3000) {
		h := hashes[i%3]
		m := mixture(int(next()>>20%300), i)
		k := len(plainTold(h, nil)) + 11 + int(next()>>20%300)
		askQuick(t, h, m, mixture(k, i), false)
		em := told(t, h, m, k)
		askQuick(t, h, m, em, true)
		for range 10 {
			em[next()>>20%uint64(k)] = byte(next() >> 20)
			askQuick(t, h, m, em, plainVerify(h, m, em))
		}
	}
}

// P3: nil and empty messages and blocks are the same; what was answered before doesn't count.
func TestVerifyNone(t *testing.T) {
	for _, h := range hashes {
		for _, m := range [][]byte{nil, {}} {
			for _, em := range [][]byte{nil, {}} {
				askVerify(t, h, m, em, false)
			}
			em := told(t, h, nil, 128)
			askVerify(t, h, m, em, true)
			spoil(em)
			askVerify(t, h, m, em, false)
			spoil(em)
			askVerify(t, h, m, em, true)
		}
	}
}
