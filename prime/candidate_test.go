package prime_test

import (
	"bytes"
	"math"
	"slices"
	"testing"

	"sconce/api"
	"sconce/prime"
)

// wrongWidths are numbers of bits that no prime is drawn of.
var wrongWidths = []int{math.MinInt, math.MinInt + 1, math.MinInt32, -4096, -16, -8, -1, 0, 1, 2, 7, 8, 9, 14, 15, 4097, 4098, 4104, 8192, math.MaxInt32, 1 << 32, 1<<32 + 16, math.MaxInt - 1, math.MaxInt}

// widths are such of which one is, the least and the greatest among them, and what is at the edges of bytes and words.
var widths = []int{16, 17, 18, 23, 24, 25, 31, 32, 33, 62, 63, 64, 65, 66, 127, 128, 129, 130, 191, 192, 193, 1023, 1024, 1025, 2048, 4088, 4089, 4094, 4095, 4096}

// sizeOf is how many bytes so many bits need.
func sizeOf(width int) int { return (width + 7) / 8 }

// askCandidate asks what Candidate tells, words and all.
func askCandidate(t *testing.T, b []byte, width int, want api.Nat, e api.Errno) {
	t.Helper()
	if x, is := prime.Candidate(b, width); is != e || !slices.Equal(x, want) {
		t.Errorf("Candidate(%x, %d): %x, error %d, not %x, error %d", b, width, x, is, want, e)
	}
}

// The chapter's example.
func TestExample(t *testing.T) {
	askCandidate(t, []byte{0, 0}, 16, api.Nat{0xc001}, api.OK)
}

// P18.1 in numbers written out.
func TestCandidate(t *testing.T) {
	for _, c := range []struct {
		b     []byte
		width int
		want  api.Nat
	}{
		{[]byte{0, 1}, 16, api.Nat{0xc001}},
		{[]byte{0, 2}, 16, api.Nat{0xc003}},
		{[]byte{0x3f, 0xfe}, 16, api.Nat{0xffff}},
		{[]byte{0x40, 0x10}, 16, api.Nat{0xc011}},
		{[]byte{0x80, 0x10}, 16, api.Nat{0xc011}},
		{[]byte{0xff, 0xff}, 16, api.Nat{0xffff}},
		{[]byte{0, 0, 0}, 17, api.Nat{0x18001}},
		{[]byte{0xff, 0, 0}, 17, api.Nat{0x18001}},
		{[]byte{0xfe, 0, 0}, 17, api.Nat{0x18001}},
		{[]byte{1, 0x7f, 0xff}, 17, api.Nat{0x1ffff}},
		{[]byte{255, 0, 0}, 18, api.Nat{0x30001}},
		{[]byte{0xc4, 3, 2}, 18, api.Nat{0x30303}},
		{[]byte{0x80, 0x12, 0x34}, 23, api.Nat{0x601235}},
		{[]byte{0x9f, 0x12, 0x34}, 23, api.Nat{0x7f1235}},
		{[]byte{0x12, 0x34, 0x56}, 24, api.Nat{0xd23457}},
		{[]byte{0xfe, 0x12, 0x34, 0x56}, 25, api.Nat{0x1923457}},
		{[]byte{0x81, 2, 3, 4, 5, 6, 7, 8}, 63, api.Nat{0x6102030405060709}},
		{[]byte{0x81, 2, 3, 4, 5, 6, 7, 8}, 64, api.Nat{0xc102030405060709}},
		{[]byte{0xff, 1, 2, 3, 4, 5, 6, 7, 8}, 65, api.Nat{0x8102030405060709, 1}},
		{[]byte{0xfe, 0, 0, 0, 0, 0, 0, 0, 0}, 65, api.Nat{0x8000000000000001, 1}},
		{[]byte{0xfc, 0, 0, 0, 0, 0, 0, 0, 0}, 66, api.Nat{1, 3}},
		{[]byte{1, 2, 3, 4, 5, 6, 7, 8, 9, 10, 11, 12, 13, 14, 15, 16}, 128, api.Nat{0x090a0b0c0d0e0f11, 0xc102030405060708}},
		{[]byte{255, 1, 2, 3, 4, 5, 6, 7, 8, 9, 10, 11, 12, 13, 14, 15, 16}, 129, api.Nat{0x090a0b0c0d0e0f11, 0x8102030405060708, 1}},
	} {
		askCandidate(t, c.b, c.width, c.want, api.OK)
	}
}

// P18.1 of each number of bits: of noughts only the three bits are 1, of ones all are.
func TestCandidateOfEachWidth(t *testing.T) {
	for width := 16; width <= 4096; width++ {
		askCandidate(t, make([]byte, sizeOf(width)), width, threes(width, 1), api.OK)
		askCandidate(t, bytes.Repeat([]byte{255}, sizeOf(width)), width, ones(width, 1), api.OK)
	}
}

// P18.1 against the chapter's words brought down bit by bit.
func TestCandidateAsPlain(t *testing.T) {
	next := spread(1)
	for round := range 40 {
		for width := 16; width < 400; width++ {
			b := someBytes(next, sizeOf(width))
			want, _ := plainCandidate(b, width)
			askCandidate(t, b, width, want, api.OK)
		}
		for _, width := range widths {
			b := someBytes(next, sizeOf(width))
			// Few bits among noughts, and few noughts among ones.
			if round%3 == 1 {
				clear(b[:round/3%len(b)])
			}
			if round%3 == 2 {
				copy(b[round/3%len(b):], bytes.Repeat([]byte{255}, len(b)))
			}
			want, _ := plainCandidate(b, width)
			askCandidate(t, b, width, want, api.OK)
		}
	}
}

// P18.1: each bit of the bytes alone stands in its place, or not at all.
func TestCandidateOfEachBit(t *testing.T) {
	for _, width := range []int{16, 17, 23, 24, 25, 63, 64, 65, 127, 128, 129, 1024, 4095, 4096} {
		size := sizeOf(width)
		for i := range 8 * size {
			b := make([]byte, size)
			b[size-1-i/8] = 1 << (i % 8)
			want := threes(width, 1)
			if i < width {
				want[i/64] |= 1 << (i % 64)
			}
			askCandidate(t, b, width, want, api.OK)
		}
	}
}

// P18.1: b has just as many bytes as the bits need.
func TestCandidateOfWrongSizes(t *testing.T) {
	next := spread(2)
	for _, width := range widths {
		size := sizeOf(width)
		for _, wrong := range []int{0, 1, size - 2, size - 1, size + 1, size + 2, 8 * ((size + 7) / 8), 2 * size, width, 512, 513, 5000} {
			if wrong == size {
				continue
			}
			askCandidate(t, make([]byte, wrong), width, nil, api.ErrRange)
			askCandidate(t, bytes.Repeat([]byte{255}, wrong), width, nil, api.ErrRange)
			askCandidate(t, someBytes(next, wrong), width, nil, api.ErrRange)
		}
		askCandidate(t, nil, width, nil, api.ErrRange)
		askCandidate(t, []byte{}, width, nil, api.ErrRange)
	}
	for width := 16; width < 300; width++ {
		for size := range 50 {
			b := someBytes(next, size)
			want, e := plainCandidate(b, width)
			askCandidate(t, b, width, want, e)
		}
	}
}

// P18.1: bits are from 16 to 4096, however many bytes there are.
func TestCandidateOfWrongWidths(t *testing.T) {
	for _, width := range wrongWidths {
		askCandidate(t, nil, width, nil, api.ErrRange)
		for _, size := range []int{0, 1, 2, 3, 8, 511, 512, 513, 514, 1024} {
			askCandidate(t, make([]byte, size), width, nil, api.ErrRange)
			askCandidate(t, bytes.Repeat([]byte{255}, size), width, nil, api.ErrRange)
		}
	}
}

// P2: the bytes and what lies beside them are neither changed nor read.
func TestCandidateLeavesBytes(t *testing.T) {
	next := spread(3)
	for _, width := range append(slices.Clone(widths), wrongWidths...) {
		size := 2
		if width >= 16 && width <= 4096 {
			size = sizeOf(width)
		}
		b := someBytes(next, size)
		want, e := plainCandidate(b, width)
		for _, beside := range []byte{0, 1, 255} {
			room := bytes.Repeat([]byte{beside}, size+40)
			copy(room[20:], b)
			before := slices.Clone(room)
			askCandidate(t, room[20:20+size], width, want, e)
			if !bytes.Equal(room, before) {
				t.Fatalf("%x or what is beside it is changed", b)
			}
		}
	}
}

// P2: an answer is new memory: whoever changes one, or what lies behind it, or the bytes, changes no other.
func TestCandidatesApart(t *testing.T) {
	next := spread(4)
	for _, width := range widths {
		b := someBytes(next, sizeOf(width))
		before := slices.Clone(b)
		want, _ := plainCandidate(b, width)
		first, _ := prime.Candidate(b, width)
		second, _ := prime.Candidate(b, width)
		room := first[:cap(first)]
		for i := range room {
			room[i] = 0x55
		}
		if !slices.Equal(second, want) || !bytes.Equal(b, before) {
			t.Fatalf("with an answer of %d bits another one or the bytes are changed", width)
		}
		askCandidate(t, b, width, want, api.OK)
		clear(b)
		if !slices.Equal(second, want) {
			t.Errorf("with the bytes an answer of %d bits is changed", width)
		}
	}
}
