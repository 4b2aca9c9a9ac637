package public_test

import (
	"encoding/hex"
	"math/bits"
	"slices"
	"testing"

	"sconce/api"
)

const top = uint64(1<<64 - 1)

// full has n words, all of them ones.
func full(n int) api.Nat {
	return slices.Repeat(api.Nat{top}, n)
}

// longer is x with noughts at its top.
func longer(x api.Nat, more int) api.Nat {
	return append(slices.Clone(x), make(api.Nat, more)...)
}

// spread tells words that are spread, others for each start.
func spread(start uint64) func() uint64 {
	w := 0x9e3779b97f4a7c15 * (2*start + 1)
	return func() uint64 {
		w ^= w << 13
		w ^= w >> 7
		w ^= w << 17
		return w
	}
}

// someOdd is an odd number of just so many bits.
func someOdd(next func() uint64, width int) api.Nat {
	x := make(api.Nat, (width+63)/64)
	for i := range x {
		x[i] = next()
	}
	x[len(x)-1] &= top >> (64*len(x) - width)
	x[(width-1)/64] |= 1 << ((width - 1) % 64)
	x[0] |= 1
	return x
}

// leastOdd is the least odd number of just so many bits, greatestOdd the greatest.
func leastOdd(width int) api.Nat {
	x := make(api.Nat, (width+63)/64)
	x[(width-1)/64] = 1 << ((width - 1) % 64)
	x[0] |= 1
	return x
}

func greatestOdd(width int) api.Nat {
	x := full((width + 63) / 64)
	x[len(x)-1] >>= 64*len(x) - width
	return x
}

// someBelow is a number below n, of n's length.
func someBelow(next func() uint64, n api.Nat) api.Nat {
	x := make(api.Nat, len(n))
	for i := range x {
		x[i] = next()
	}
	if !below(x, n) {
		x[len(x)-1] = n[len(n)-1] / 2
	}
	return x
}

// widthOf is how many bits x has without noughts ahead.
func widthOf(x api.Nat) int {
	for i := len(x) - 1; i >= 0; i-- {
		for bit := 63; bit >= 0; bit-- {
			if x[i]>>bit == 1 {
				return 64*i + bit + 1
			}
		}
	}
	return 0
}

// sizeOf is how many bytes x needs.
func sizeOf(x api.Nat) int {
	size := 0
	for 8*size < widthOf(x) {
		size++
	}
	return size
}

// below says whether a is below b, which has a's length.
func below(a, b api.Nat) bool {
	for i := len(a) - 1; i >= 0; i-- {
		if a[i] != b[i] {
			return a[i] < b[i]
		}
	}
	return false
}

// moved is x and a word more, in a word more than x has.
func moved(x api.Nat, w uint64) api.Nat {
	out := longer(x, 1)
	for i := range out {
		out[i], w = bits.Add64(out[i], w, 0)
	}
	return out
}

// less is x less a word, in its length; x is not below it.
func less(x api.Nat, w uint64) api.Nat {
	out := slices.Clone(x)
	for i := range out {
		out[i], w = bits.Sub64(out[i], w, 0)
	}
	return out
}

// bytesOf is x in so many bytes, the highest ahead; what they have no room for is cut off.
func bytesOf(x api.Nat, size int) []byte {
	out := make([]byte, size)
	for i := range min(size, 8*len(x)) {
		out[size-1-i] = byte(x[i/8] >> (8 * (i % 8)))
	}
	return out
}

// numberOf is the number of bytes, the highest ahead, in so many words, for which it is not too great.
func numberOf(b []byte, n int) api.Nat {
	x := make(api.Nat, n)
	for i, value := range b {
		if place := len(b) - 1 - i; value > 0 {
			x[place/8] |= uint64(value) << (8 * (place % 8))
		}
	}
	return x
}

// unhexed are the bytes of a text of digits.
func unhexed(t *testing.T, s string) []byte {
	t.Helper()
	if len(s)%2 == 1 {
		s = "0" + s
	}
	b, e := hex.DecodeString(s)
	if e != nil {
		t.Fatal(e)
	}
	return b
}

// shown is the number of a text of digits, in as few words as it needs.
func shown(t *testing.T, s string) api.Nat {
	t.Helper()
	return numberOf(unhexed(t, s), (len(s)+15)/16)
}

// addTo adds x to sum modulo n, all of them of n's length, both below n.
func addTo(sum, x, n api.Nat) {
	var carry, borrow uint64
	for i, w := range x {
		sum[i], carry = bits.Add64(sum[i], w, carry)
	}
	if carry == 0 && below(sum, n) {
		return
	}
	for i, w := range n {
		sum[i], borrow = bits.Sub64(sum[i], w, borrow)
	}
}

// slowProduct is a b modulo n by doubling and adding, bit by bit; both are below n and of its length.
func slowProduct(a, b, n api.Nat) api.Nat {
	sum := make(api.Nat, len(n))
	for i := widthOf(b) - 1; i >= 0; i-- {
		addTo(sum, slices.Clone(sum), n)
		if b[i/64]>>(i%64)%2 == 1 {
			addTo(sum, a, n)
		}
	}
	return sum
}

// slowPower is x to the power of e modulo n, from the exponent's lowest bit on.
func slowPower(x api.Nat, e uint64, n api.Nat) api.Nat {
	out := longer(api.Nat{1}, len(n)-1)
	for square := x; ; square = slowProduct(square, square, n) {
		if e%2 == 1 {
			out = slowProduct(out, square, n)
		}
		e /= 2
		if e == 0 {
			return out
		}
	}
}

// room has a list in the middle of other items, and a piece of it that is the list.
func room[T any](list []T, beside T) (all, piece []T) {
	all = slices.Concat(slices.Repeat([]T{beside}, 20), list, slices.Repeat([]T{beside}, 20))
	return all, all[20 : 20+len(list)]
}
