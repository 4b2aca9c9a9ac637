package mont

import (
	"math/bits"

	"sconce/api"
	"sconce/limbs"
	"sconce/product"
	"sconce/trace"
	"sconce/word"
)

// What stands in this file branches on lengths alone and comes to no place that hangs on what words hold: a modulus may be as secret as what is reckoned modulo it.

// wordBits is how many bits a word has.
const wordBits = 64

// prepared is the modulus of an odd number above 1 without noughts at its top, which it keeps.
func prepared(m api.Nat) api.Modulus {
	out := api.Modulus{M: m, K: word.Inverse(-m[0])}
	out.RR = squareOfR(out)
	return out
}

// squareOfR is R R modulo M, for a modulus that has its M and K: 2 to the power of 64 n, as Enter has it.
func squareOfR(m api.Modulus) api.Nat {
	power := restOfR(m)
	exponent := wordBits * len(m.M)
	length := bits.Len(uint(exponent))
	for i := range length {
		power = times(nil, m, power, power)
		if exponent>>(length-1-i)&1 == 1 {
			power = doubled(m, power)
		}
	}
	return power
}

// restOfR is R modulo M.
func restOfR(m api.Modulus) api.Nat {
	n := len(m.M)
	rest := make(api.Nat, n)
	// M is above this: its highest word isn't 0, and it is odd and above 1.
	rest[n-1] = 1
	for range wordBits {
		rest = doubled(m, rest)
	}
	return rest
}

// doubled is a member's double modulo M.
func doubled(m api.Modulus, a api.Nat) api.Nat {
	double, over := limbs.Left(nil, a, 0)
	return lessened(nil, m, double, over)
}

// isPrepared is 1, if K and RR are those of M, an odd number above 1 without noughts at its top and of RR's length; else 0.
func isPrepared(m api.Modulus) uint64 {
	n := len(m.M)
	// R R is RR and some times M. How many times is below 2^(64 (n + 1)), so n + 1 rows are all of them.
	square := fitted(m.RR, 2*n+1)
	addRows(nil, m, square, n+1)
	want := make(api.Nat, 2*n+1)
	want[2*n] = 1
	return word.Zero(m.K*m.M[0]+1) & limbs.Less(nil, m.RR, m.M) & limbs.Equal(nil, square, want)
}

// times is a b times the inverse of R, modulo M.
func times(t *trace.Trace, m api.Modulus, a, b api.Nat) api.Nat {
	return reduced(t, m, product.Mul(t, a, b))
}

// reduced is x, of 2 n words and below M R, times the inverse of R, modulo M. It overwrites x.
func reduced(t *trace.Trace, m api.Modulus, x api.Nat) api.Nat {
	n := len(m.M)
	over := addRows(t, m, x, n)
	return lessened(t, m, x[n:], over)
}

// addRows adds to x, for each of so many words of it from the lowest on, the row of M that makes that word 0, and answers the bit above x.
func addRows(t *trace.Trace, m api.Modulus, x api.Nat, many int) uint64 {
	n := len(m.M)
	var over uint64
	for i := range many {
		t.Span(n)
		above := addRow(x[i:i+n], m.M, x[i]*m.K)
		x[i+n], over = word.Add(x[i+n], above, over)
	}
	return over
}

// addRow adds m times w to as many words of x, and answers the word above them.
func addRow(x, m api.Nat, w uint64) uint64 {
	var above uint64
	for i := range len(m) {
		above, x[i] = word.Mul(m[i], w, x[i], above)
	}
	return above
}

// lessened is x, with a bit above its n words, modulo M: both together are below twice M.
func lessened(t *trace.Trace, m api.Modulus, x api.Nat, over uint64) api.Nat {
	fits := limbs.Less(t, x, m.M) ^ 1
	less, _ := limbs.SubIf(t, over|fits, x, m.M)
	return less
}

// fitted is a copy of x in n words: what it has more is cut off, what it hasn't is 0.
func fitted(x api.Nat, n int) api.Nat {
	out := make(api.Nat, n)
	copy(out, x)
	return out
}
