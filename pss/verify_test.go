package pss_test

import (
	"bytes"
	"math"
	"slices"
	"testing"

	"sconce/api"
	"sconce/hash"
	"sconce/pss"
)

// askVerify asks what Verify tells, twice, of lists with others beside them, of which nothing is to be read or changed.
func askVerify(t *testing.T, h int, m, em []byte, bits, salt int, want bool) {
	t.Helper()
	for _, beside := range []byte{0, 188} {
		all, piece := among(em, beside)
		allM, pieceM := among(m, beside)
		before, beforeM := slices.Clone(all), slices.Clone(allM)
		for range 2 {
			if got := pss.Verify(h, pieceM, piece, bits, salt); got != want {
				t.Fatalf("Verify(%d, %d, %d, %d, %d): %t, not %t", h, m, em, bits, salt, got, want)
			}
			askUnchanged(t, all, before)
			askUnchanged(t, allM, beforeM)
		}
	}
}

// askQuick asks what Verify tells, once.
func askQuick(t *testing.T, h int, m, em []byte, bits, salt int, want bool) {
	t.Helper()
	if got := pss.Verify(h, m, em, bits, salt); got != want {
		t.Fatalf("Verify(%d, %d, %d, %d, %d): %t, not %t", h, m, em, bits, salt, got, want)
	}
}

// encoded is what Encode answers.
func encoded(t *testing.T, h int, m []byte, bits int, salt []byte) []byte {
	t.Helper()
	em, wrong := pss.Encode(h, m, bits, salt)
	if wrong != api.OK {
		t.Fatalf("hash %d, %d bits, a salt of %d: error %d", h, bits, len(salt), wrong)
	}
	return em
}

// otherLengths are lengths of salts that aren't this one: to both sides of it, of what there is room for, and far off.
func otherLengths(right, room int) []int {
	list := slices.Concat(farLengths, []int{0, 1, right - 1, right + 1, right + 8, 2 * right, room - 1, room, room + 1, room + 2, -right, 256 + right, 1<<32 + right})
	return slices.DeleteFunc(list, func(n int) bool { return n == right })
}

// P26.2 of what Encode answers, with its salt's length and with others.
func TestVerify(t *testing.T) {
	t.Parallel()
	for _, h := range hashes {
		for i, salt := range salts() {
			least := plainSize(h) + len(salt) + 2
			for _, length := range []int{least, least + 1, least + 40} {
				bits := bitsFor(length)[(i+length)%8]
				em := encoded(t, h, []byte("a text"), bits, salt)
				askVerify(t, h, []byte("a text"), em, bits, len(salt), true)
				askVerify(t, h, []byte("a texu"), em, bits, len(salt), false)
				for _, other := range otherLengths(len(salt), plainRoom(h, bits)) {
					askVerify(t, h, []byte("a text"), em, bits, other, false)
				}
			}
		}
	}
}

// P26.2 with each number of bits that there may be up to some, and the most.
func TestVerifyBits(t *testing.T) {
	t.Parallel()
	for _, h := range hashes {
		for bits := 8*plainSize(h) + 9; bits <= 1100; bits++ {
			salt := mixture(plainRoom(h, bits)/2, uint64(bits))
			em := encoded(t, h, []byte("a text"), bits, salt)
			askVerify(t, h, []byte("a text"), em, bits, len(salt), true)
			for other := max(0, bits-20); other <= bits+20; other++ {
				want := plainLength(other) == len(em) && plainVerify(h, []byte("a text"), em, other, len(salt))
				askQuick(t, h, []byte("a text"), em, other, len(salt), want)
			}
		}
		for _, bits := range []int{4096, 8184, 8185, 8190, 8191, 8192} {
			for _, salt := range [][]byte{nil, mixture(plainSize(h), 1), mixture(plainRoom(h, bits), 2)} {
				em := encoded(t, h, []byte("a text"), bits, salt)
				askVerify(t, h, []byte("a text"), em, bits, len(salt), true)
				for _, other := range slices.Concat(belowOne, aboveMost, []int{1, 8, bits - 8, bits + 8}) {
					askQuick(t, h, []byte("a text"), em, other, len(salt), false)
				}
			}
		}
	}
}

// P26.2: with bits of the same number of bytes a block verifies where it is right for them, too: its highest bits are 0, and the mask's are what is left.
func TestVerifyOtherBits(t *testing.T) {
	t.Parallel()
	for _, h := range hashes {
		yes, no := 0, 0
		for n := range byte(30) {
			for _, length := range []int{plainSize(h) + 6, plainSize(h) + 7, 100} {
				for _, bits := range bitsFor(length) {
					m := []byte{n}
					em := encoded(t, h, m, bits, []byte("salt"))
					for _, other := range bitsFor(length) {
						same := bytes.Equal(em, encoded(t, h, m, other, []byte("salt")))
						askQuick(t, h, m, em, other, 4, same)
						if other != bits && same {
							yes++
						}
						if other != bits && !same {
							no++
						}
					}
				}
			}
		}
		if yes == 0 || no == 0 {
			t.Errorf("hash %d: %d blocks alike, %d not", h, yes, no)
		}
	}
}

// P26.2 of each message with itself, and with each other one.
func TestVerifyMessages(t *testing.T) {
	t.Parallel()
	for _, h := range hashes {
		for i, m := range messages() {
			em := encoded(t, h, m, 700, mixture(10, uint64(i)))
			askVerify(t, h, m, em, 700, 10, true)
			for _, other := range messages() {
				askVerify(t, h, other, em, 700, 10, bytes.Equal(m, other))
			}
			if len(m) > 0 {
				askQuick(t, h, m[:len(m)-1], em, 700, 10, false)
				askQuick(t, h, m[1:], em, 700, 10, false)
				askQuick(t, h, replaced(m, len(m)-1, m[len(m)-1]^1), em, 700, 10, false)
			}
			askQuick(t, h, append(slices.Clone(m), 0), em, 700, 10, false)
			// A message isn't its hash.
			sum, _ := hash.Sum(h, m)
			askQuick(t, h, sum, em, 700, 10, false)
		}
	}
}

// P26.2 with another hash, and with numbers of none: no.
func TestVerifyHashes(t *testing.T) {
	t.Parallel()
	for _, right := range hashes {
		for _, m := range [][]byte{nil, {}, []byte("m"), mixture(200, 1)} {
			for _, bits := range []int{705, 712, 1023, 1024, 8192} {
				for _, salt := range [][]byte{nil, []byte("salt"), mixture(20, 1)} {
					em := encoded(t, right, m, bits, salt)
					for _, h := range slices.Concat(hashes, noHashes) {
						askQuick(t, h, m, em, bits, len(salt), h == right)
					}
				}
			}
		}
	}
	for _, h := range noHashes {
		for _, em := range [][]byte{nil, {}, {188}, {1, 188}, make([]byte, 34), same(128, 188), mixture(1024, 1), mixture(1025, 1)} {
			for _, bits := range []int{math.MinInt, -1, 0, 1, 8, 16, 272, 1024, 8192, 8193, math.MaxInt} {
				for _, salt := range []int{math.MinInt, -1, 0, 1, 32, math.MaxInt} {
					askQuick(t, h, nil, em, bits, salt, false)
				}
			}
		}
	}
}

// P26.2 with any one bit of any place another one, the highest among them.
func TestVerifyOneBit(t *testing.T) {
	t.Parallel()
	for _, h := range hashes {
		least := plainSize(h) + 2
		for _, length := range []int{least, least + 1, least + 4, least + 5, 128} {
			for _, bits := range bitsFor(length) {
				salt := mixture(min(4, plainRoom(h, bits)), uint64(bits))
				em := encoded(t, h, []byte("m"), bits, salt)
				for place := range em {
					for bit := range 8 {
						em[place] ^= 1 << bit
						askQuick(t, h, []byte("m"), em, bits, len(salt), false)
						em[place] ^= 1 << bit
					}
				}
				for place := range em[1:] {
					// Two bytes whose differences would take each other away.
					askQuick(t, h, []byte("m"), replaced(replaced(em, place, em[place]^5), place+1, em[place+1]^5), bits, len(salt), false)
				}
				askQuick(t, h, []byte("m"), em, bits, len(salt), true)
			}
		}
	}
}

// P26.2 with each other byte in the first place, the last one, and those at the seams.
func TestVerifyValues(t *testing.T) {
	t.Parallel()
	for _, h := range hashes {
		for _, length := range []int{plainSize(h) + 6, plainSize(h) + 7, 128} {
			for _, bits := range bitsFor(length) {
				em := encoded(t, h, []byte("m"), bits, []byte("salt"))
				room := plainRoom(h, bits)
				for _, place := range []int{0, room - 4, room, room + 1, length - 2, length - 1} {
					for value := range 256 {
						askQuick(t, h, []byte("m"), replaced(em, place, byte(value)), bits, 4, byte(value) == em[place])
					}
				}
			}
		}
	}
}

// P26.2: each value of the highest bits but noughts is no, though the rest is right.
func TestVerifyHighestBits(t *testing.T) {
	t.Parallel()
	for _, h := range hashes {
		for _, length := range []int{plainSize(h) + 2, plainSize(h) + 6, plainSize(h) + 7, 128, 1024} {
			for rest, bits := range bitsFor(length) {
				salt := mixture(min(4, plainRoom(h, bits)), uint64(bits))
				em := encoded(t, h, []byte("m"), bits, salt)
				for high := range 1 << (7 - rest) {
					changed := replaced(em, 0, em[0]|byte(high<<(rest+1)))
					askQuick(t, h, []byte("m"), changed, bits, len(salt), high == 0)
				}
				// The mask left as it stands, with its highest bits.
				full := slices.Concat(plainLaid(h, plainDB(plainRoom(h, bits), salt), plainSum(h, []byte("m"), salt)), em[plainRoom(h, bits)+1:])
				askQuick(t, h, []byte("m"), full, bits, len(salt), bytes.Equal(full, em))
			}
		}
	}
}

// P26.2 of a block put together by hand, with a salt of any bytes: it verifies.
func TestVerifyByHand(t *testing.T) {
	t.Parallel()
	for _, h := range hashes {
		for i, salt := range salts() {
			for _, m := range [][]byte{nil, []byte("m"), mixture(100, uint64(i))} {
				least := plainSize(h) + len(salt) + 2
				for _, length := range []int{least, least + 1, least + 17} {
					for _, bits := range bitsFor(length) {
						em := built(h, plainDB(plainRoom(h, bits), salt), plainSum(h, m, salt), bits)
						askQuick(t, h, m, em, bits, len(salt), true)
					}
				}
			}
		}
	}
}

// P26.2 of a DB that isn't as it ought to be, under its right H and mask: a nought is another byte, the byte 1 is another or stands elsewhere.
func TestVerifyWrongDB(t *testing.T) {
	t.Parallel()
	m := []byte("m")
	for _, h := range hashes {
		for i, salt := range salts()[:40] {
			for _, noughts := range []int{0, 1, 2, 9} {
				length := plainSize(h) + len(salt) + 2 + noughts
				bits := bitsFor(length)[7-i%2]
				sum := plainSum(h, m, salt)
				db := plainDB(noughts+len(salt), salt)
				askQuick(t, h, m, built(h, db, sum, bits), bits, len(salt), true)
				for place := range noughts + 1 {
					for _, value := range []byte{0, 1, 2, 3, 16, 64, 127} {
						em := built(h, replaced(db, place, value), sum, bits)
						askQuick(t, h, m, em, bits, len(salt), value == db[place])
					}
				}
				for place := range noughts {
					moved := replaced(replaced(db, noughts, 0), place, 1)
					askQuick(t, h, m, built(h, moved, sum, bits), bits, len(salt), false)
				}
				// All of it turned by one place, either way.
				askQuick(t, h, m, built(h, slices.Concat(db[1:], []byte{0}), sum, bits), bits, len(salt), false)
				askQuick(t, h, m, built(h, slices.Concat([]byte{0}, db[:len(db)-1]), sum, bits), bits, len(salt), false)
				askQuick(t, h, m, built(h, make([]byte, len(db)), sum, bits), bits, len(salt), false)
			}
		}
	}
}

// P26.2 of an H that isn't as it ought to be, with the right DB under its mask: of another salt, another message, fewer noughts, another hash of the message, or any bytes.
func TestVerifyWrongSum(t *testing.T) {
	t.Parallel()
	m := []byte("m")
	for _, h := range hashes {
		for i, salt := range salts() {
			length := plainSize(h) + len(salt) + 2 + i%3
			bits := bitsFor(length)[i%8]
			db := plainDB(plainRoom(h, bits), salt)
			first, _ := hash.Sum(h, m)
			sums := [][]byte{make([]byte, plainSize(h)), first, mixture(plainSize(h), uint64(i)), plainSum(h, nil, salt), plainSum(h, first, salt), plainSum(h, m, append(slices.Clone(salt), 0)), plainSum(h, m, append([]byte{1}, salt...))}
			if len(salt) > 0 {
				sums = append(sums, plainSum(h, m, nil), plainSum(h, m, salt[1:]), plainSum(h, m, replaced(salt, 0, salt[0]^128)))
			}
			for _, noughts := range []int{0, 7, 9, 16} {
				sum, _ := hash.Sum(h, slices.Concat(make([]byte, noughts), first, salt))
				sums = append(sums, sum)
			}
			for _, ahead := range [][]byte{same(8, 255), {0, 0, 0, 0, 0, 0, 0, 1}, {1, 0, 0, 0, 0, 0, 0, 0}} {
				sum, _ := hash.Sum(h, slices.Concat(ahead, first, salt))
				sums = append(sums, sum)
			}
			turned, _ := hash.Sum(h, slices.Concat(make([]byte, 8), salt, first))
			if len(salt) > 0 {
				sums = append(sums, turned)
			}
			for _, sum := range sums {
				askQuick(t, h, m, built(h, db, sum, bits), bits, len(salt), false)
			}
			askQuick(t, h, m, built(h, db, plainSum(h, m, salt), bits), bits, len(salt), true)
		}
	}
}

// P26.2 of each last byte but 188: no.
func TestVerifyLastByte(t *testing.T) {
	t.Parallel()
	for _, h := range hashes {
		for _, bits := range []int{8*plainSize(h) + 9, 8*plainSize(h) + 16, 1023, 8192} {
			em := encoded(t, h, []byte("m"), bits, nil)
			for value := range 256 {
				askQuick(t, h, []byte("m"), replaced(em, len(em)-1, byte(value)), bits, 0, value == 188)
			}
		}
	}
}

// P26.2: bytes cut off or laid on, in front or behind; none at all.
func TestVerifyCut(t *testing.T) {
	t.Parallel()
	m := []byte("m")
	for _, h := range hashes {
		for _, length := range []int{plainSize(h) + 6, plainSize(h) + 7, 128} {
			for _, bits := range bitsFor(length) {
				em := encoded(t, h, m, bits, []byte("salt"))
				askVerify(t, h, m, nil, bits, 4, false)
				askVerify(t, h, m, []byte{}, bits, 4, false)
				for n := 1; n <= len(em); n++ {
					askQuick(t, h, m, em[n:], bits, 4, false)
					askQuick(t, h, m, em[:len(em)-n], bits, 4, false)
				}
				for _, value := range []byte{0, 1, 188, 255} {
					askQuick(t, h, m, append([]byte{value}, em...), bits, 4, false)
					askQuick(t, h, m, append(slices.Clone(em), value), bits, 4, false)
				}
				askQuick(t, h, m, append([]byte{0}, em...), bits+8, 4, plainVerify(h, m, append([]byte{0}, em...), bits+8, 4))
				askQuick(t, h, m, slices.Concat(em, em), bits, 4, false)
				askQuick(t, h, m, slices.Concat(em, em), 2*bits, 4, false)
				// A block whose rest is right, behind the one that was asked for.
				behind := append(slices.Clone(em), 7)
				askQuick(t, h, m, behind[:len(em)], bits, 4, true)
			}
		}
	}
}

// P26.2: blocks of each length that the bits may need, of any bytes, and salts of each length: P1 and no.
func TestVerifyShortBlocks(t *testing.T) {
	t.Parallel()
	for _, h := range hashes {
		for length := range plainSize(h) + 6 {
			for _, em := range [][]byte{make([]byte, length), same(length, 188), mixture(length, uint64(length))} {
				for _, bits := range append(bitsFor(length), 8*length+1) {
					for _, salt := range append([]int{math.MinInt, -plainSize(h) - 2, -2, 0, 1, 2, 4, math.MaxInt}, length, length-plainSize(h), length-plainSize(h)-2) {
						askQuick(t, h, nil, em, bits, salt, false)
					}
				}
			}
		}
		for _, bits := range slices.Concat(belowOne, aboveMost) {
			for _, length := range []int{0, 1, 33, 34, 66, 1024, 1025, 1026, 2048} {
				for _, salt := range []int{math.MinInt, -1, 0, 32, 1000, math.MaxInt} {
					askQuick(t, h, nil, mixture(length, 1), bits, salt, false)
				}
			}
		}
		// As it would stand if there might be more bits.
		for _, bits := range []int{8193, 8194, 8200} {
			length := (bits + 7) / 8
			sum := plainSum(h, nil, []byte("salt"))
			db := plainLaid(h, plainDB(length-plainSize(h)-2, []byte("salt")), sum)
			db[0] &= byte(1<<(8-8*length+bits) - 1)
			askQuick(t, h, nil, slices.Concat(db, sum, []byte{188}), bits, 4, false)
		}
	}
}

// P26.2 of any bytes, and of blocks in which a few bytes are others.
func TestVerifyAnyBytes(t *testing.T) {
	t.Parallel()
	next := spread(77)
	for i := range uint64(3000) {
		h := hashes[i%3]
		m := mixture(int(next()>>20%300), i)
		salt := mixture(int(next()>>20%60), i)
		length := plainSize(h) + len(salt) + 2 + int(next()>>20%60)
		bits := bitsFor(length)[next()>>20%8]
		askQuick(t, h, m, mixture(length, i), bits, len(salt), false)
		em := encoded(t, h, m, bits, salt)
		askQuick(t, h, m, em, bits, len(salt), true)
		for range 5 {
			em[next()>>20%uint64(length)] ^= byte(next()>>20) & byte(next()>>30)
			askQuick(t, h, m, em, bits, len(salt), plainVerify(h, m, em, bits, len(salt)))
		}
	}
}

// P3: nil and empty messages and blocks are the same; what was answered before doesn't count.
func TestVerifyNone(t *testing.T) {
	for _, h := range hashes {
		for _, m := range [][]byte{nil, {}} {
			for _, em := range [][]byte{nil, {}} {
				for _, bits := range []int{-1, 0, 1, 8, 272, 1024} {
					askVerify(t, h, m, em, bits, 0, false)
				}
			}
			em := encoded(t, h, nil, 1023, nil)
			askVerify(t, h, m, em, 1023, 0, true)
			spoil(em)
			askVerify(t, h, m, em, 1023, 0, false)
			spoil(em)
			askVerify(t, h, m, em, 1023, 0, true)
		}
	}
}
