package keygen_test

import (
	"bytes"
	"math/bits"
	"slices"
	"testing"

	"sconce/api"
	"sconce/nat"
	"sconce/script"
)

const top = uint64(1<<64 - 1)

// ones is 2 to the power of width, less a word above 0; width is a multiple of 64.
func ones(width int, w uint64) api.Nat {
	x := slices.Repeat(api.Nat{top}, width/64)
	x[0] -= w - 1
	return x
}

// threes is 3 times 2 to the power of width - 2, and a word; width is a multiple of 64.
func threes(width int, w uint64) api.Nat {
	x := make(api.Nat, width/64)
	x[len(x)-1] = 3 << 62
	x[0] |= w
	return x
}

// shown is the number of a text that nat.Show writes.
func shown(t *testing.T, s string) api.Nat {
	t.Helper()
	x, is := nat.Parse(s)
	if !is {
		t.Fatalf("%q is no number", s)
	}
	return x
}

// bytesOf are numbers in as many bytes as their words have, one behind the other.
func bytesOf(t *testing.T, list ...api.Nat) []byte {
	t.Helper()
	var out []byte
	for _, x := range list {
		b, e := nat.Bytes(x, 8*len(x))
		if e != api.OK {
			t.Fatalf("%x has no bytes", x)
		}
		out = append(out, b...)
	}
	return out
}

// words are the same of numbers of a word.
func words(list ...uint64) []byte {
	var out []byte
	for _, w := range list {
		for i := range 8 {
			out = append(out, byte(w>>(56-8*i)))
		}
	}
	return out
}

// mixed are bytes that are spread, others for each start.
func mixed(start uint32, many int) []byte {
	b := make([]byte, many)
	for i := range b {
		start = start*1664525 + 1013904223
		b[i] = byte(start >> 24)
	}
	return b
}

// behind are lists one behind the other, in new memory.
func behind(lists ...[]byte) []byte { return slices.Concat(lists...) }

// nobodys are scripts without bytes.
func nobodys() []*script.Script {
	return []*script.Script{nil, {}, script.New(nil), script.New([]byte{}), script.New([]byte{3, 4}[:0])}
}

// numbersOf are a key's numbers, to be changed where they stand.
func numbersOf(k *api.Key) []*api.Nat {
	return []*api.Nat{&k.N, &k.D, &k.P, &k.Q, &k.DP, &k.DQ, &k.QI}
}

// sameKeys says whether two keys are alike, words and all.
func sameKeys(a, b api.Key) bool {
	others := numbersOf(&b)
	for i, x := range numbersOf(&a) {
		if !slices.Equal(*x, *others[i]) {
			return false
		}
	}
	return a.E == b.E
}

// spoil changes each word of x, and what is behind it as far as it may be reached.
func spoil(x api.Nat) {
	x = x[:cap(x)]
	for i := range x {
		x[i] ^= top
	}
}

// leaves asks that of a script of these bytes so many are left, the last ones.
func leaves(t *testing.T, s *script.Script, laid []byte, left int) {
	t.Helper()
	if s.Left() != left {
		t.Errorf("%d bytes are left, not %d", s.Left(), left)
		return
	}
	if b, e := s.Read(left); e != api.OK || !bytes.Equal(b, laid[len(laid)-left:]) {
		t.Errorf("what is left isn't the last %d bytes: %x", left, b)
	}
}

// timesRest is a b modulo n, of numbers below n.
func timesRest(a, b, n uint64) uint64 {
	above, below := bits.Mul64(a, b)
	_, rest := bits.Div64(above, below, n)
	return rest
}

// powerRest is a to the power of e modulo n, from the exponent's lowest bit on.
func powerRest(a, e, n uint64) uint64 {
	out := uint64(1)
	for ; e > 0; e >>= 1 {
		if e&1 == 1 {
			out = timesRest(out, a, n)
		}
		a = timesRest(a, a, n)
	}
	return out
}

// plainStrong is miller.Strong by the words of chapter 17, of an odd n of 64 bits and a base from 2 to n - 2.
func plainStrong(n, base uint64) bool {
	odd, twos := n-1, 0
	for odd%2 == 0 {
		odd, twos = odd/2, twos+1
	}
	power := powerRest(base, odd, n)
	is := power == 1
	for range twos {
		is = is || power == n-1
		power = timesRest(power, power, n)
	}
	return is
}

// plainDivisor is the greatest number that divides both, of which one isn't 0.
func plainDivisor(a, b uint64) uint64 {
	for b > 0 {
		a, b = b, a%b
	}
	return a
}

// plainGood is prime.Good by the words of chapters 16 and 18, of a p of 64 bits.
func plainGood(p, e uint64) bool {
	for d := uint64(2); d <= 1000; d++ {
		if p%d == 0 {
			return false
		}
	}
	return plainDivisor(p-1, e) == 1
}

// isPrime says whether a number of 64 bits is one: of so small ones none but a prime passes with all of these bases.
func isPrime(n uint64) bool {
	for _, base := range []uint64{2, 3, 5, 7, 11, 13, 17, 19, 23, 29, 31, 37} {
		if n%base == 0 || !plainStrong(n, base) {
			return false
		}
	}
	return true
}
