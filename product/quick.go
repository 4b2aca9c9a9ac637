package product

import (
	"math/bits"

	"sconce/api"
	"sconce/nat"
	"sconce/word"
)

// divideByWords divides by an m that isn't 0, one word of the quotient after the other (Knuth's algorithm D).
func divideByWords(a, m api.Nat) (api.Nat, api.Nat) {
	quotient, rest := make(api.Nat, len(a)), make(api.Nat, len(m))
	needed := (nat.Bits(m) + wordBits - 1) / wordBits
	if needed == 1 {
		rest[0] = divideByOne(quotient, a, m[0])
		return quotient, rest
	}
	// Guesses are good only with a divisor whose highest bit is set.
	shift := bits.LeadingZeros64(m[needed-1])
	v := shiftedUp(m[:needed], shift, needed)
	u := shiftedUp(a, shift, max(len(a), needed)+1)
	for i := range len(a) - needed + 1 {
		place := len(a) - needed - i
		quotient[place] = takeMultiple(u[place:place+needed+1], v)
	}
	for i := range needed {
		rest[i] = u[i]>>shift | u[i+1]<<(wordBits-shift)
	}
	return quotient, rest
}

// divideByOne divides by a word that isn't 0: the quotient is laid into out, the rest answered.
func divideByOne(out, a api.Nat, d uint64) uint64 {
	var rest uint64
	for i := range len(a) {
		place := len(a) - 1 - i
		out[place], rest = bits.Div64(rest, a[place], d)
	}
	return rest
}

// shiftedUp is x times 2^shift (shift below 64) in a length into which it fits.
func shiftedUp(x api.Nat, shift, length int) api.Nat {
	out := make(api.Nat, length)
	var below uint64
	for i := range length {
		var here uint64
		if i < len(x) {
			here = x[i]
		}
		out[i] = here<<shift | below>>(wordBits-shift)
		below = here
	}
	return out
}

// takeMultiple takes v as often as it goes out of u, which has one word more and is below v times 2^64; and how often that was.
func takeMultiple(u, v api.Nat) uint64 {
	n := len(v)
	often := guess(u[n], u[n-1], u[n-2], v[n-1], v[n-2])
	if subtractRow(u, v, often) == 1 {
		// The carry out of the sum makes up for the borrow.
		u[n] += addRow(u[:n], v, 1)
		often--
	}
	return often
}

// guess is how often v goes into u as far as u's three highest words and v's two highest tell: right, or 1 too great.
func guess(u2, u1, u0, v1, v0 uint64) uint64 {
	if u2 >= v1 {
		// They are alike then, and v1 has its highest bit: v goes in 2^64 - 1 times, or once less.
		return ^uint64(0)
	}
	often, rest := bits.Div64(u2, u1, v1)
	var over uint64
	// A rest that is over a word is above all that v0 could ask.
	for over == 0 && isAbove(often, v0, rest, u0) {
		often--
		rest, over = word.Add(rest, v1, 0)
	}
	return often
}

// isAbove says whether a b is above the number of an upper and a lower word.
func isAbove(a, b, upper, lower uint64) bool {
	high, low := word.Mul(a, b, 0, 0)
	return high > upper || high == upper && low > lower
}

// subtractRow takes v times w away from u, which has one word more, and answers the borrow.
func subtractRow(u, v api.Nat, w uint64) uint64 {
	var above, lower, borrow uint64
	for i := range len(v) {
		above, lower = word.Mul(v[i], w, above, 0)
		u[i], borrow = word.Sub(u[i], lower, borrow)
	}
	u[len(v)], borrow = word.Sub(u[len(v)], above, borrow)
	return borrow
}
