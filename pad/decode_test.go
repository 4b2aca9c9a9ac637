package pad_test

import (
	"bytes"
	"slices"
	"testing"

	"sconce/api"
	"sconce/pad"
	"sconce/trace"
)

// askDecode asks what Decode tells, with each kind of trace, of a list with others beside it, of which nothing is to be read or changed, also by whoever changes the answer.
func askDecode(t *testing.T, em, want []byte, wrong api.Errno) {
	t.Helper()
	for _, beside := range []byte{0, 255} {
		all, piece := room(em, beside)
		before := slices.Clone(all)
		for _, tr := range traces() {
			got, e := pad.Decode(tr, piece)
			if e != wrong || !bytes.Equal(got, want) {
				t.Fatalf("Decode(%d): %d, error %d, not %d, error %d", em, got, e, want, wrong)
			}
			spoil(got)
			askUnchanged(t, all, before)
		}
	}
}

// askPlainDecode asks what Decode tells against the chapter's words.
func askPlainDecode(t *testing.T, em []byte) {
	t.Helper()
	want, wrong := plainDecode(em)
	askDecode(t, em, want, wrong)
}

// P23.2 of nil and of each length up to twelve, of bytes 0 and 2, 1 or 255, wherever they stand: all such lists.
func TestDecodeSmall(t *testing.T) {
	askDecode(t, nil, nil, api.ErrDecrypt)
	askDecode(t, []byte{}, nil, api.ErrDecrypt)
	for n := 1; n <= 12; n++ {
		for _, other := range []byte{1, 2, 255} {
			for bits := range 1 << n {
				em := make([]byte, n)
				for i := range em {
					em[i] = byte(bits>>i&1) * other
				}
				askQuick(t, em)
				if n > 1 {
					em[0], em[1] = 0, 2
					askQuick(t, em)
				}
			}
		}
	}
}

// askQuick asks what Decode tells against the chapter's words, once.
func askQuick(t *testing.T, em []byte) {
	t.Helper()
	want, wrong := plainDecode(em)
	if got, e := pad.Decode(nil, em); e != wrong || !bytes.Equal(got, want) {
		t.Fatalf("Decode(%d): %d, error %d, not %d, error %d", em, got, e, want, wrong)
	}
}

// P23.2 of what ought to be taken: fills of eight bytes and more, messages of none and more, with noughts in them and at their front.
func TestDecode(t *testing.T) {
	for _, fill := range []int{8, 9, 10, 100, 500, 1000, 1013, 1019, 1020, 1021, 1022} {
		messages := [][]byte{nil, {}, {0}, {0, 0}, {7}, {0, 7}, {7, 0}, {0, 7, 0}, {2, 0, 2}, {0, 2, 1, 1, 1, 1, 1, 1, 1, 1, 0, 7}}
		for _, n := range []int{20, 255, 256, 511, 1012, 1013} {
			messages = append(messages, filled(n, 1), mixture(n, 2), make([]byte, n), bytes.Repeat([]byte{255}, n))
		}
		for _, m := range messages {
			if fill+3+len(m) <= mostBytes {
				askDecode(t, padded(fill, m), m, api.OK)
			} else {
				askDecode(t, padded(fill, m), nil, api.ErrDecrypt)
			}
		}
	}
}

// P23.2 with each byte there is in the fill, at each of its places.
func TestDecodeFills(t *testing.T) {
	m := []byte{5, 0, 6}
	for value := 1; value < 256; value++ {
		askDecode(t, slices.Concat([]byte{0, 2}, bytes.Repeat([]byte{byte(value)}, 8), []byte{0}, m), m, api.OK)
		for place := range 9 {
			askDecode(t, replaced(padded(9, m), 2+place, byte(value)), m, api.OK)
		}
	}
}

// P23.2 with each other first and second byte.
func TestDecodeHeads(t *testing.T) {
	for _, em := range [][]byte{padded(8, nil), padded(8, []byte{7}), padded(20, filled(30, 1)), padded(1021, nil), padded(500, filled(521, 1))} {
		askDecode(t, em, em[slices.Index(em[2:], 0)+3:], api.OK)
		for value := range 256 {
			if value != 0 {
				askDecode(t, replaced(em, 0, byte(value)), nil, api.ErrDecrypt)
			}
			if value != 2 {
				askDecode(t, replaced(em, 1, byte(value)), nil, api.ErrDecrypt)
			}
		}
		askDecode(t, replaced(replaced(em, 0, 2), 1, 0), nil, api.ErrDecrypt)
		askDecode(t, replaced(replaced(em, 0, 1), 1, 3), nil, api.ErrDecrypt)
	}
}

// lengths are those at which Decode has edges.
func lengths() []int {
	return []int{0, 1, 2, 3, 9, 10, 11, 12, 13, 20, 64, 127, 128, 129, 255, 256, 257, 512, 1000, 1022, 1023, 1024, 1025, 1026, 2048, 5000}
}

// P23.2 with no byte 0 behind the head, with one byte 0 at each place, and with more of them.
func TestDecodeEnds(t *testing.T) {
	for _, n := range lengths() {
		em := filled(n, uint64(n))
		copy(em, []byte{0, 2})
		askDecode(t, em, nil, api.ErrDecrypt)
		for place := 2; place < n; place += 1 + n/200 {
			askEnd(t, replaced(em, place, 0), place)
			askEnd(t, replaced(replaced(em, place, 0), n-1, 0), place)
			if place+1 < n {
				askEnd(t, replaced(replaced(em, place, 0), place+1, 0), place)
			}
		}
		if n > 2 {
			askEnd(t, replaced(em, n-1, 0), n-1)
		}
	}
}

// askEnd asks what Decode tells of bytes that have the head and whose first byte 0 behind it is at a place.
func askEnd(t *testing.T, em []byte, place int) {
	t.Helper()
	if place < 10 || len(em) > mostBytes {
		askDecode(t, em, nil, api.ErrDecrypt)
	} else {
		askDecode(t, em, em[place+1:], api.OK)
	}
}

// P23.2 with seven, eight and nine bytes that aren't 0, and what is as long as it may be.
func TestDecodeEdges(t *testing.T) {
	for _, m := range [][]byte{nil, {7}, {0}, filled(100, 1)} {
		for fill := range 8 {
			askDecode(t, padded(fill, m), nil, api.ErrDecrypt)
		}
		askDecode(t, padded(8, m), m, api.OK)
		askDecode(t, padded(9, m), m, api.OK)
		for _, fill := range []int{8, 9, 300} {
			whole := append(slices.Clone(m), filled(mostBytes-3-fill-len(m), 4)...)
			askDecode(t, padded(fill, whole[1:]), whole[1:], api.OK)
			askDecode(t, padded(fill, whole), whole, api.OK)
			askDecode(t, padded(fill, append(whole, 1)), nil, api.ErrDecrypt)
		}
	}
	// Eight bytes aren't enough if there are but seven ahead of the first 0.
	askDecode(t, []byte{0, 2, 1, 1, 1, 1, 1, 1, 1, 0, 1, 0, 7}, nil, api.ErrDecrypt)
	askDecode(t, []byte{0, 2, 0, 1, 1, 1, 1, 1, 1, 1, 1, 0, 7}, nil, api.ErrDecrypt)
}

// P23.2 of any bytes.
func TestDecodeAnyBytes(t *testing.T) {
	next := spread(77)
	for i := range uint64(2000) {
		em := mixture(int(next()>>20%60), i)
		askPlainDecode(t, em)
		if len(em) > 1 {
			em[0], em[1] = 0, 2
			askPlainDecode(t, em)
			askPlainDecode(t, append([]byte{0, 2}, filled(int(next()>>20%20), i)...))
			askPlainDecode(t, slices.Concat([]byte{0, 2}, filled(int(next()>>20%20), i), em))
		}
	}
}

// P2, P3: two answers of one list share nothing; a nil list and an empty one are the same.
func TestDecodeAnswersAreNew(t *testing.T) {
	em := padded(8, []byte{1, 2, 3})
	first, _ := pad.Decode(nil, em)
	second, _ := pad.Decode(nil, em)
	spoil(first)
	if !bytes.Equal(second, []byte{1, 2, 3}) {
		t.Error("two answers share memory")
	}
	spoil(em)
	if !bytes.Equal(second, []byte{1, 2, 3}) {
		t.Error("an answer shares memory with the argument")
	}
	a, b := trace.New(), trace.New()
	pad.Decode(a, nil)
	pad.Decode(b, []byte{})
	if !trace.Same(a, b) {
		t.Error("nil and no bytes are told apart")
	}
}

// P23.5: of each length of a message that there is room for.
func TestBack(t *testing.T) {
	for _, k := range []int{11, 12, 13, 20, 21, 64, 127, 128, 129, 256, 1022, 1023, 1024} {
		news := scripts(mixture(4*mostBytes, uint64(k)))
		for n := range k - leastRoom + 1 {
			for _, m := range [][]byte{filled(n, uint64(n)), mixture(n, uint64(n)), make([]byte, n)} {
				em, e := pad.Encode(m, k, news())
				if e != api.OK || len(em) != k {
					t.Fatalf("Encode of %d bytes, %d: %d bytes, error %d", n, k, len(em), e)
				}
				if got, e := pad.Decode(trace.New(), em); e != api.OK || !bytes.Equal(got, m) {
					t.Fatalf("%d came back as %d, error %d", m, got, e)
				}
			}
		}
	}
}
