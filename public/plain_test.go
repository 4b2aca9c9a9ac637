package public_test

import (
	"bytes"
	"slices"
	"testing"

	"sconce/api"
	"sconce/public"
)

// rightExponents may be the public half of a key, wrongExponents may not.
var (
	rightExponents = []uint64{3, 5, 17, 257, 65537, 1<<31 + 1, 1<<32 - 5, 1<<32 - 1}
	wrongExponents = []uint64{0, 1, 2, 4, 6, 65536, 65538, 1 << 31, 1<<32 - 2, 1 << 32, 1<<32 + 1, 1<<32 + 2, 1<<32 + 3, 1<<33 + 1, 1<<63 + 1, top - 1, top}
)

// moduliOf are moduli of so many bits: the least one, the greatest one and others.
func moduliOf(width int) []api.Nat {
	next := spread(uint64(width))
	return []api.Nat{leastOdd(width), greatestOdd(width), someOdd(next, width), someOdd(next, width)}
}

// rightModuli may be a key's modulus: of bits that are a multiple of 8, of 64, or of none of both.
func rightModuli() []api.Nat {
	list := []api.Nat{{65521 * 65537}, {1<<32 - 5}, {1<<31 + 11}}
	for _, width := range []int{32, 33, 39, 40, 41, 56, 57, 63, 64, 65, 72, 73, 127, 128, 129, 192, 193, 1000, 1024, 1025} {
		list = append(list, moduliOf(width)...)
	}
	return list
}

// greatModuli are the greatest ones that may be a key's modulus, and such about the highest word's edge.
func greatModuli() []api.Nat {
	var list []api.Nat
	for _, width := range []int{4096, 8127, 8128, 8129, 8185, 8191, 8192} {
		list = append(list, moduliOf(width)[:3]...)
	}
	return list
}

// wrongModuli may not be a key's modulus, whatever e is.
func wrongModuli() []api.Nat {
	list := []api.Nat{nil, {}, {0}, {1}, {2}, {3}, {0, 0}, {1, 0}, {255}, {256}, {257}, {65521}, {1 << 31}, {1<<31 - 1}, {1 << 32}, {1<<32 - 2}, {0, 1}, {2, 1}, {top - 1},
		full(129), full(130), full(131), full(300), full(301), full(1000), make(api.Nat, 128), make(api.Nat, 300), make(api.Nat, 301), make(api.Nat, 2000)}
	for _, width := range []int{2, 8, 16, 30, 31, 8193, 8194, 8256, 8257, 64 * 300, 64*300 + 1} {
		list = append(list, moduliOf(width)[:3]...)
	}
	for _, n := range slices.Concat(rightModuli()[:20], greatModuli()) {
		even := slices.Clone(n)
		even[0]--
		list = append(list, even, longer(n, 1), longer(n, 2), longer(n, 300-len(n)), longer(n, 301-len(n)), append(api.Nat{0}, n...))
	}
	return list
}

// plainKey says by the words of chapter 19 what key.Public tells.
func plainKey(n api.Nat, e uint64) api.Errno {
	width := widthOf(n)
	if width < 32 || width > 8192 || n[0]%2 == 0 || n[len(n)-1] == 0 {
		return api.ErrKey
	}
	if e%2 == 0 || e < 3 || e > 0xffffffff {
		return api.ErrKey
	}
	return api.OK
}

// plainApply is Apply by the chapter's words, without a call of the program.
func plainApply(n api.Nat, e uint64, m []byte) ([]byte, api.Errno) {
	if wrong := plainKey(n, e); wrong != api.OK {
		return nil, wrong
	}
	if len(m) != sizeOf(n) {
		return nil, api.ErrRange
	}
	x := numberOf(m, len(n))
	if !below(x, n) {
		return nil, api.ErrRange
	}
	return bytesOf(slowPower(x, e, n), len(m)), api.OK
}

// ask asks what Apply tells, twice, of lists with others beside them, of which nothing is to be read or changed, also by whoever changes the answer.
func ask(t *testing.T, n api.Nat, e uint64, m, want []byte, wrong api.Errno) {
	t.Helper()
	for _, beside := range []byte{0, 255} {
		words, number := room(n, uint64(beside)*0x0101010101010101)
		list, piece := room(m, beside)
		wordsBefore, listBefore := slices.Clone(words), slices.Clone(list)
		got, is := public.Apply(number, e, piece)
		if is != wrong || !bytes.Equal(got, want) {
			t.Fatalf("Apply(%x, %d, %x): %x, error %d, not %x, error %d", n, e, m, got, is, want, wrong)
		}
		spoil(got)
		if !slices.Equal(words, wordsBefore) || !slices.Equal(list, listBefore) {
			t.Fatalf("Apply(%x, %d, %x): an argument or what is beside it is changed", n, e, m)
		}
	}
}

// askPlain asks of Apply what the chapter's words say.
func askPlain(t *testing.T, n api.Nat, e uint64, m []byte) {
	t.Helper()
	want, wrong := plainApply(n, e, m)
	ask(t, n, e, m, want, wrong)
}

// spoil changes each byte, and what is behind them as far as it may be reached.
func spoil(b []byte) {
	b = b[:cap(b)]
	for i := range b {
		b[i] ^= 255
	}
}
