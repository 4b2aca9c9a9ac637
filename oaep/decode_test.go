package oaep_test

import (
	"bytes"
	"slices"
	"testing"

	"sconce/api"
	"sconce/oaep"
	"sconce/script"
	"sconce/trace"
)

// askDecode asks what Decode tells, with each kind of trace, of lists with others beside them, of which nothing is to be read or changed, also by whoever changes the answer.
func askDecode(t *testing.T, h int, label, em, want []byte, wrong api.Errno) {
	t.Helper()
	for _, beside := range []byte{0, 1} {
		all, piece := among(em, beside)
		allLabel, pieceLabel := among(label, beside)
		before, beforeLabel := slices.Clone(all), slices.Clone(allLabel)
		for _, tr := range traces() {
			got, e := oaep.Decode(tr, h, pieceLabel, piece)
			if e != wrong || !bytes.Equal(got, want) {
				t.Fatalf("Decode(%d, %d, %d): %d, error %d, not %d, error %d", h, label, em, got, e, want, wrong)
			}
			spoil(got)
			askUnchanged(t, all, before)
			askUnchanged(t, allLabel, beforeLabel)
		}
	}
}

// askQuick asks what Decode tells, once.
func askQuick(t *testing.T, h int, label, em, want []byte, wrong api.Errno) {
	t.Helper()
	if got, e := oaep.Decode(nil, h, label, em); e != wrong || !bytes.Equal(got, want) {
		t.Fatalf("Decode(%d, %d, %d): %d, error %d, not %d, error %d", h, label, em, got, e, want, wrong)
	}
}

// askRest asks what Decode tells of a block whose DB has these bytes behind the label's hash, against the chapter's words.
func askRest(t *testing.T, h int, label, rest []byte) {
	t.Helper()
	em := padded(h, label, rest)
	want, wrong := plainDecode(h, label, em)
	askQuick(t, h, label, em, want, wrong)
}

// P24.2 of all short rests of DB of the bytes 0, 1 and 2, or 255: of no byte 1, one and more of them, with others and noughts ahead and behind.
func TestDecodeSmall(t *testing.T) {
	t.Parallel()
	for _, h := range hashes {
		for n := 1; n <= 6; n++ {
			for _, other := range []byte{2, 255} {
				rest := make([]byte, n)
				for more := true; more; more = nextRest(rest, other) {
					askRest(t, h, []byte("l"), rest)
				}
			}
		}
	}
}

// nextRest makes a list of bytes 0, 1 and another one the next such list; false behind the last.
func nextRest(rest []byte, other byte) bool {
	for i, value := range rest {
		switch value {
		case 0:
			rest[i] = 1
			return true
		case 1:
			rest[i] = other
			return true
		}
		rest[i] = 0
	}
	return false
}

// P24.2 of what ought to be taken: noughts of none and more, messages of none and more, with noughts and ones in them and at their front.
func TestDecode(t *testing.T) {
	t.Parallel()
	for _, h := range hashes {
		most := mostBytes - 2*plainSize(h) - 2
		for _, noughts := range []int{0, 1, 2, 31, 32, 100, most - 1, most} {
			messages := [][]byte{nil, {}, {0}, {1}, {0, 0}, {0, 1}, {1, 0}, {7}, {0, 7, 0}, {0, 1, 0}, {1, 1, 1}, {2, 1}}
			for _, n := range []int{20, 256, most - 32, most} {
				messages = append(messages, filled(n, 1), mixture(n, 2), make([]byte, n), bytes.Repeat([]byte{1}, n))
			}
			for _, m := range messages {
				em := padded(h, []byte("l"), slices.Concat(make([]byte, noughts), []byte{1}, m))
				if noughts+len(m) <= most {
					askDecode(t, h, []byte("l"), em, m, api.OK)
				} else {
					askDecode(t, h, []byte("l"), em, nil, api.ErrDecrypt)
				}
			}
		}
	}
}

// lengths are those at which Decode has edges with this hash.
func lengths(h int) []int {
	least := 2*plainSize(h) + 2
	return []int{0, 1, 2, 3, least / 2, least - 2, least - 1, least, least + 1, least + 2, 192, 256, 500, 1022, 1023, 1024, 1025, 1026, 2048}
}

// P24.2: what is too short or too long is refused, whatever it is.
func TestDecodeLengths(t *testing.T) {
	t.Parallel()
	for _, h := range hashes {
		askDecode(t, h, nil, nil, nil, api.ErrDecrypt)
		askDecode(t, h, []byte{}, []byte{}, nil, api.ErrDecrypt)
		for _, n := range lengths(h) {
			for _, em := range [][]byte{make([]byte, n), filled(n, 1), mixture(n, 2)} {
				askDecode(t, h, []byte("l"), em, nil, api.ErrDecrypt)
			}
		}
		size := plainSize(h)
		askDecode(t, h, nil, padded(h, nil, nil), nil, api.ErrDecrypt)
		askDecode(t, h, nil, padded(h, nil, nil)[:2*size], nil, api.ErrDecrypt)
		askDecode(t, h, nil, padded(h, nil, []byte{1}), nil, api.OK)
		askDecode(t, h, nil, padded(h, nil, []byte{1, 9}), []byte{9}, api.OK)
		askDecode(t, h, nil, padded(h, nil, append(make([]byte, 1022-2*size), 1)), nil, api.OK)
		askDecode(t, h, nil, padded(h, nil, append(make([]byte, 1023-2*size), 1)), nil, api.ErrDecrypt)
		askDecode(t, h, nil, padded(h, nil, append([]byte{1}, filled(1022-2*size, 4)...)), filled(1022-2*size, 4), api.OK)
		askDecode(t, h, nil, padded(h, nil, append([]byte{1}, filled(1023-2*size, 4)...)), nil, api.ErrDecrypt)
	}
}

// P24.2 with each other first byte.
func TestDecodeFirstByte(t *testing.T) {
	t.Parallel()
	for _, h := range hashes {
		for _, rest := range [][]byte{{1}, {0, 0, 1, 7, 8}, append(make([]byte, 300), 1, 0)} {
			em := padded(h, []byte("l"), rest)
			askDecode(t, h, []byte("l"), em, rest[slices.Index(rest, 1)+1:], api.OK)
			for value := 1; value < 256; value++ {
				askQuick(t, h, []byte("l"), replaced(em, 0, byte(value)), nil, api.ErrDecrypt)
			}
		}
	}
}

// P24.2 with any byte of the label's hash another one, by a bit or by more.
func TestDecodeHashes(t *testing.T) {
	t.Parallel()
	for _, h := range hashes {
		seed := filled(plainSize(h), 6)
		for _, rest := range [][]byte{{1}, {0, 0, 1, 7, 8}} {
			db := append(plainHash(h, []byte("l")), rest...)
			askDecode(t, h, []byte("l"), plainBlock(h, 0, seed, db), rest[slices.Index(rest, 1)+1:], api.OK)
			for place := range plainSize(h) {
				for _, other := range []byte{1, 2, 4, 8, 16, 32, 64, 128, 255} {
					em := plainBlock(h, 0, seed, replaced(db, place, db[place]^other))
					askQuick(t, h, []byte("l"), em, nil, api.ErrDecrypt)
				}
			}
			// Two bytes whose differences would take each other away.
			twice := replaced(replaced(db, 0, db[0]^5), 1, db[1]^5)
			askQuick(t, h, []byte("l"), plainBlock(h, 0, seed, twice), nil, api.ErrDecrypt)
		}
	}
}

// P24.2 with all kinds of labels, each with itself and with others.
func TestDecodeLabels(t *testing.T) {
	t.Parallel()
	for _, h := range hashes {
		for _, label := range labels() {
			em := padded(h, label, []byte{0, 1, 7})
			for _, other := range labels() {
				if bytes.Equal(label, other) {
					askDecode(t, h, other, em, []byte{7}, api.OK)
				} else {
					askDecode(t, h, other, em, nil, api.ErrDecrypt)
				}
			}
			// A label isn't its hash.
			askQuick(t, h, plainHash(h, label), em, nil, api.ErrDecrypt)
		}
	}
}

// P24.2 with no byte 1 behind the label's hash, with one at each place, and with another byte ahead of it at each place.
func TestDecodeEnds(t *testing.T) {
	t.Parallel()
	for _, h := range hashes {
		for _, n := range []int{1, 2, 3, 20, 33, 900} {
			n = min(n, mostBytes-2*plainSize(h)-1)
			none := make([]byte, n)
			askRest(t, h, nil, none)
			askRest(t, h, nil, bytes.Repeat([]byte{2}, n))
			for place := 0; place < n; place += 1 + n/100 {
				one := replaced(none, place, 1)
				copy(one[place+1:], mixture(n-place-1, uint64(place)))
				askDecode(t, h, nil, padded(h, nil, one), one[place+1:], api.OK)
				askRest(t, h, nil, replaced(none, place, 1))
				askRest(t, h, nil, replaced(bytes.Repeat([]byte{1}, n), place, 0))
				for ahead := 0; ahead < place; ahead += 1 + n/30 {
					askQuick(t, h, nil, padded(h, nil, replaced(one, ahead, byte(2+place%254))), nil, api.ErrDecrypt)
				}
				if place > 0 {
					askQuick(t, h, nil, padded(h, nil, replaced(one, place-1, 2)), nil, api.ErrDecrypt)
					askQuick(t, h, nil, padded(h, nil, replaced(one, place-1, 255)), nil, api.ErrDecrypt)
				}
			}
		}
	}
}

// P24.2 with each other byte where a nought or the byte 1 ought to be.
func TestDecodeValues(t *testing.T) {
	t.Parallel()
	for _, h := range hashes {
		for value := range 256 {
			for place := range 4 {
				askRest(t, h, []byte("l"), replaced([]byte{0, 0, 1, 9, 9}, place, byte(value)))
				askRest(t, h, []byte("l"), replaced([]byte{0, 0, 1, 1, 1}, place, byte(value)))
			}
		}
	}
}

// P24.2 of any bytes, and of blocks in which one byte is another.
func TestDecodeAnyBytes(t *testing.T) {
	t.Parallel()
	next := spread(77)
	for i := range uint64(500) {
		h := hashes[i%3]
		em := mixture(int(next()>>20%300), i)
		want, wrong := plainDecode(h, nil, em)
		askQuick(t, h, nil, em, want, wrong)
		m := mixture(int(next()>>20%100), i)
		right := padded(h, nil, slices.Concat(make([]byte, int(next()>>20%20)), []byte{1}, m))
		askQuick(t, h, nil, right, m, api.OK)
		for range 10 {
			place := int(next() >> 20 % uint64(len(right)))
			em := replaced(right, place, byte(next()>>20))
			want, wrong := plainDecode(h, nil, em)
			askQuick(t, h, nil, em, want, wrong)
		}
	}
}

// P24.2, P4: ErrHash ahead of all else; it writes nothing down.
func TestDecodeNoHash(t *testing.T) {
	for _, h := range noHashes {
		for _, em := range [][]byte{nil, {}, {0}, make([]byte, 66), make([]byte, 1025), padded(1, nil, []byte{1, 7}), padded(3, nil, []byte{1, 7})} {
			for _, label := range [][]byte{nil, []byte("l")} {
				askDecode(t, h, label, em, nil, api.ErrHash)
			}
			tr := trace.New()
			if _, e := oaep.Decode(tr, h, nil, em); e != api.ErrHash || tr.Many() != 0 {
				t.Errorf("hash %d: error %d, %v", h, e, tr.Events())
			}
		}
	}
	// What one hash has padded, no other takes apart.
	for _, h := range hashes {
		for _, other := range hashes {
			if h != other {
				askDecode(t, other, nil, padded(h, nil, append(make([]byte, 200), 1, 7)), nil, api.ErrDecrypt)
			}
		}
	}
}

// P2, P3: two answers of one block share nothing; nil lists and empty ones are the same.
func TestDecodeAnswersAreNew(t *testing.T) {
	for _, h := range hashes {
		em := padded(h, nil, []byte{0, 1, 1, 2, 3})
		first, _ := oaep.Decode(nil, h, nil, em)
		second, _ := oaep.Decode(nil, h, []byte{}, em)
		spoil(first)
		spoil(em)
		if !bytes.Equal(second, []byte{1, 2, 3}) {
			t.Error("an answer shares memory with the argument or with another answer")
		}
		// Nothing of the block lies behind an answer's end or ahead of it.
		if again, _ := oaep.Decode(nil, h, nil, padded(h, nil, append([]byte{1}, filled(40, 1)...))); !bytes.Equal(again, filled(40, 1)) || len(bytes.Trim(again[len(again):cap(again)], "\x00")) != 0 {
			t.Errorf("%d, behind it %d", again, again[len(again):cap(again)])
		}
	}
}

// P24.4: of each length of a message that there is room for; with another label it is ErrDecrypt.
func TestBack(t *testing.T) {
	t.Parallel()
	for _, h := range hashes {
		least := 2*plainSize(h) + 2
		for _, k := range []int{least, least + 1, least + 2, least + 20, 256, 1023, 1024} {
			laid := mixture(64, uint64(k))
			for n := 0; n <= k-least; n += 1 + n/100 {
				askBack(t, h, filled(n, uint64(n)), k, laid)
			}
			for _, n := range lengthsFor(k - least) {
				askBack(t, h, mixture(n, uint64(n)), k, laid)
				askBack(t, h, make([]byte, n), k, laid)
				askBack(t, h, bytes.Repeat([]byte{1}, n), k, laid)
			}
		}
	}
}

// askBack asks that what Encode answers is taken apart again, with the same label alone.
func askBack(t *testing.T, h int, m []byte, k int, laid []byte) {
	t.Helper()
	for _, label := range [][]byte{nil, []byte("label")} {
		em, e := oaep.Encode(h, label, m, k, script.New(laid))
		if e != api.OK || len(em) != k {
			t.Fatalf("Encode of %d bytes, %d: %d bytes, error %d", len(m), k, len(em), e)
		}
		askQuick(t, h, label, em, m, api.OK)
		for _, other := range [][]byte{{0}, []byte("labe"), []byte("label "), []byte("Label")} {
			askQuick(t, h, other, em, nil, api.ErrDecrypt)
		}
	}
}

// P24.4: messages of all lengths that there is room for.
func TestBackAll(t *testing.T) {
	t.Parallel()
	for _, h := range hashes {
		room, _ := plainRoom(h, mostBytes)
		for n := range room + 1 {
			m := mixture(n, uint64(n))
			em, e := oaep.Encode(h, []byte("l"), m, mostBytes, script.New(filled(64, uint64(n))))
			if e != api.OK {
				t.Fatal(n, e)
			}
			askQuick(t, h, []byte("l"), em, m, api.OK)
		}
	}
}
